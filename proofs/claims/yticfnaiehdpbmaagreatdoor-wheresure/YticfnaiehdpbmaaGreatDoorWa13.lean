import Derived.Test.YticfnaiehdpbmaaGreatDoorWa12
set_option maxRecDepth 100000
set_option maxHeartbeats 0
set_option linter.all false
namespace Go.Proofs.YticfnaiehdpbmaaGreatDoor
open Go.RowKit Go.Proofs.Tryz
namespace Hp
section
variable {U:Py}{k M:Nat}{z:List Nat}{A ft fq fp fs:PO}{w w' w2:Py}{g:St}{cS:Nat}{X:Fx}{aJ:Option Nat}{cP:Addr}
section
variable (r:kh U k A cP)(ak:Ms U k M z w g){I:Ad}{a:Nd}(aQ:Qc z w I a)
include r ak I a aQ
def Om (e:g.steps<=20000)(hst1:20000<=g.steps)(c:Pl)(n:Option Addr) :
  PN 196 #[Pm k,Pm I.p,QN c n] w (Qg U k M z A w ((vU,.stop),g.step)):=by
 have b{G}(h:G:=by
 have b{G}(h:G:=by
 have bo:=q3 r br e;rw[fY Pv,r.is] at bo;have f:=Y r.is;obtain⟨D,d⟩:=xH I.p;rw[<-d.out] at b5 ⊢;clear E a7 bD bb bH;go_enter func196,kN;have b{G}(h:G:=by
 have bJ:=bF.trans ay;have u:=L.lt;obtain⟨s,l,m,o,p,q,H⟩:=Ql aO.out;have b{G}(h:G:=by
 rw[<-a1];refine ng (v:=.tuple #[vA vU,.iface 359 (.pointer (some cP))]) ?_;exact⟨⟨_,rfl,f.out.symm⟩,aE,aH⟩):=Pq h;exact uI):=Pq h;exact mL):=Pq h;exact VQ):=Pq h;exact YA
def akx (f:a.2.kd=23)(l:g.steps<=20000)(hst1:g.steps<20000)(c:Pl)(n:Option Addr){d:(Va×Er)×St}(e:∀t,Ms U k M z t g.step->Qc z t I a->PN 256 #[Pm k,Pm I.p,QN c n] t (Qg U k M z A t d)) :
  PN 196 #[Pm k,Pm I.p,QN c n] w (Qg U k M z A w d):=by
 have b{G}(h:G:=by
 have o:=Y E;have b{G}(h:G:=by
 have b{G}(h:G:=by
 have m:=Y e;have q:(a.2.kd:Int)=23:=by rw[f]
 exact kY):=Pq h;exact XQ):=Pq h;exact VQ):=Pq h;exact YA
def agm (f:a.2.kd=24)(l:g.steps<=20000)(hst1:g.steps<20000)(c:Pl)(n:Option Addr){d:(Va×Er)×St}(e:∀t,Ms U k M z t g.step->Qc z t I a->PN 257 #[Pm k,Pm I.p,QN c n] t (Qg U k M z A t d)) :
  PN 196 #[Pm k,Pm I.p,QN c n] w (Qg U k M z A w d):=by
 have b{G}(h:G:=by
 have o:=Y E;have b{G}(h:G:=by
 have b{G}(h:G:=by
 have m:=Y e;have q:(a.2.kd:Int)=24:=by rw[f]
 exact kY):=Pq h;exact XQ):=Pq h;exact VQ):=Pq h;exact YA
def Mb (f:a.2.kd=25)(l:g.steps<=20000)(hst1:g.steps<20000)(c:Pl)(n:Option Addr){d:(Va×Er)×St}(e:∀t,Ms U k M z t g.step->Qc z t I a->PN 258 #[Pm k,Pm I.p,QN c n] t (Qg U k M z A t d)) :
  PN 196 #[Pm k,Pm I.p,QN c n] w (Qg U k M z A w d):=by
 have b{G}(h:G:=by
 have o:=Y E;have b{G}(h:G:=by
 have b{G}(h:G:=by
 have m:=Y e;have q:(a.2.kd:Int)=25:=by rw[f]
 exact kY):=Pq h;exact XQ):=Pq h;exact VQ):=Pq h;exact YA
def anF (f:a.2.kd=26)(l:g.steps<=20000)(hst1:g.steps<20000)(c:Pl)(n:Option Addr){d:(Va×Er)×St}(e:∀t,Ms U k M z t g.step->Qc z t I a->PN 258 #[Pm k,Pm I.p,QN c n] t (Qg U k M z A t d)) :
  PN 196 #[Pm k,Pm I.p,QN c n] w (Qg U k M z A w d):=by
 have b{G}(h:G:=by
 have o:=Y E;have b{G}(h:G:=by
 have b{G}(h:G:=by
 have m:=Y e;have q:(a.2.kd:Int)=26:=by rw[f]
 exact kY):=Pq h;exact XQ):=Pq h;exact VQ):=Pq h;exact YA
def PP (f:a.2.kd=27)(l:g.steps<=20000)(hst1:g.steps<20000)(c:Pl)(n:Option Addr){d:(Va×Er)×St}(e:∀t,Ms U k M z t g.step->Qc z t I a->PN 259 #[Pm k,Pm I.p,QN c n] t (Qg U k M z A t d)) :
  PN 196 #[Pm k,Pm I.p,QN c n] w (Qg U k M z A w d):=by
 have b{G}(h:G:=by
 have o:=Y E;have b{G}(h:G:=by
 have b{G}(h:G:=by
 have m:=Y e;have q:(a.2.kd:Int)=27:=by rw[f]
 exact kY):=Pq h;exact XQ):=Pq h;exact VQ):=Pq h;exact YA
def MX (f:a.2.kd=28)(l:g.steps<=20000)(hst1:g.steps<20000)(c:Pl)(n:Option Addr){d:(Va×Er)×St}(e:∀t,Ms U k M z t g.step->Qc z t I a->PN 259 #[Pm k,Pm I.p,QN c n] t (Qg U k M z A t d)) :
  PN 196 #[Pm k,Pm I.p,QN c n] w (Qg U k M z A w d):=by
 have b{G}(h:G:=by
 have o:=Y E;have b{G}(h:G:=by
 have b{G}(h:G:=by
 have m:=Y e;have q:(a.2.kd:Int)=28:=by rw[f]
 exact kY):=Pq h;exact XQ):=Pq h;exact VQ):=Pq h;exact YA
def MS (f:a.2.kd=29)(l:g.steps<=20000)(hst1:g.steps<20000)(c:Pl)(n:Option Addr){d:(Va×Er)×St}(e:∀t,Ms U k M z t g.step->Qc z t I a->PN 259 #[Pm k,Pm I.p,QN c n] t (Qg U k M z A t d)) :
  PN 196 #[Pm k,Pm I.p,QN c n] w (Qg U k M z A w d):=by
 have b{G}(h:G:=by
 have o:=Y E;have b{G}(h:G:=by
 have b{G}(h:G:=by
 have m:=Y e;have q:(a.2.kd:Int)=29:=by rw[f]
 exact kY):=Pq h;exact XQ):=Pq h;exact VQ):=Pq h;exact YA
def anH (f:a.2.kd=30)(l:g.steps<=20000)(hst1:g.steps<20000)(c:Pl)(n:Option Addr){d:(Va×Er)×St}(e:∀t,Ms U k M z t g.step->Qc z t I a->PN 259 #[Pm k,Pm I.p,QN c n] t (Qg U k M z A t d)) :
  PN 196 #[Pm k,Pm I.p,QN c n] w (Qg U k M z A w d):=by
 have b{G}(h:G:=by
 have o:=Y E;have b{G}(h:G:=by
 have b{G}(h:G:=by
 have m:=Y e;have q:(a.2.kd:Int)=30:=by rw[f]
 exact kY):=Pq h;exact XQ):=Pq h;exact VQ):=Pq h;exact YA
def Sy (f:a.2.kd=31)(l:g.steps<=20000)(hst1:g.steps<20000)(c:Pl)(n:Option Addr){d:(Va×Er)×St}(e:∀t,Ms U k M z t g.step->Qc z t I a->PN 259 #[Pm k,Pm I.p,QN c n] t (Qg U k M z A t d)) :
  PN 196 #[Pm k,Pm I.p,QN c n] w (Qg U k M z A w d):=by
 have b{G}(h:G:=by
 have o:=Y E;have b{G}(h:G:=by
 have b{G}(h:G:=by
 have m:=Y e;have q:(a.2.kd:Int)=31:=by rw[f]
 exact kY):=Pq h;exact XQ):=Pq h;exact VQ):=Pq h;exact YA
def anJ (f:a.2.kd=32)(l:g.steps<=20000)(hst1:g.steps<20000)(c:Pl)(n:Option Addr){d:(Va×Er)×St}(e:∀t,Ms U k M z t g.step->Qc z t I a->PN 260 #[Pm k,Pm I.p,QN c n] t (Qg U k M z A t d)) :
  PN 196 #[Pm k,Pm I.p,QN c n] w (Qg U k M z A w d):=by
 have b{G}(h:G:=by
 have o:=Y E;have b{G}(h:G:=by
 have b{G}(h:G:=by
 have m:=Y e;have q:(a.2.kd:Int)=32:=by rw[f]
 exact kY):=Pq h;exact XQ):=Pq h;exact VQ):=Pq h;exact YA
def T3 (f:a.2.kd=33)(l:g.steps<=20000)(hst1:g.steps<20000)(c:Pl)(n:Option Addr){d:(Va×Er)×St}(e:∀t,Ms U k M z t g.step->Qc z t I a->PN 261 #[Pm k,Pm I.p,QN c n] t (Qg U k M z A t d)) :
  PN 196 #[Pm k,Pm I.p,QN c n] w (Qg U k M z A w d):=by
 have b{G}(h:G:=by
 have o:=Y E;have b{G}(h:G:=by
 have b{G}(h:G:=by
 have m:=Y e;have q:(a.2.kd:Int)=33:=by rw[f]
 exact kY):=Pq h;exact XQ):=Pq h;exact VQ):=Pq h;exact YA
def agp (f:a.2.kd=34)(l:g.steps<=20000)(hst1:g.steps<20000)(c:Pl)(n:Option Addr){d:(Va×Er)×St}(e:∀t,Ms U k M z t g.step->Qc z t I a->PN 262 #[Pm k,Pm I.p,QN c n] t (Qg U k M z A t d)) :
  PN 196 #[Pm k,Pm I.p,QN c n] w (Qg U k M z A w d):=by
 have b{G}(h:G:=by
 have o:=Y E;have b{G}(h:G:=by
 have b{G}(h:G:=by
 have m:=Y e;have q:(a.2.kd:Int)=34:=by rw[f]
 exact kY):=Pq h;exact XQ):=Pq h;exact VQ):=Pq h;exact YA
def akA (f:a.2.kd=35)(l:g.steps<=20000)(hst1:g.steps<20000)(c:Pl)(n:Option Addr){d:(Va×Er)×St}(e:∀t,Ms U k M z t g.step->Qc z t I a->PN 263 #[Pm k,Pm I.p,QN c n] t (Qg U k M z A t d)) :
  PN 196 #[Pm k,Pm I.p,QN c n] w (Qg U k M z A w d):=by
 have b{G}(h:G:=by
 have o:=Y E;have b{G}(h:G:=by
 have b{G}(h:G:=by
 have m:=Y e;have q:(a.2.kd:Int)=35:=by rw[f]
 exact kY):=Pq h;exact XQ):=Pq h;exact VQ):=Pq h;exact YA
def agq (f:a.2.kd=36)(l:g.steps<=20000)(hst1:g.steps<20000)(c:Pl)(n:Option Addr){d:(Va×Er)×St}(e:∀t,Ms U k M z t g.step->Qc z t I a->PN 264 #[Pm k,Pm I.p,QN c n] t (Qg U k M z A t d)) :
  PN 196 #[Pm k,Pm I.p,QN c n] w (Qg U k M z A w d):=by
 have b{G}(h:G:=by
 have o:=Y E;have b{G}(h:G:=by
 have b{G}(h:G:=by
 have m:=Y e;have q:(a.2.kd:Int)=36:=by rw[f]
 exact kY):=Pq h;exact XQ):=Pq h;exact VQ):=Pq h;exact YA
def RE (f:a.2.kd=38)(l:g.steps<=20000)(hst1:g.steps<20000)(c:Pl)(n:Option Addr){d:(Va×Er)×St}(e:∀t,Ms U k M z t g.step->Qc z t I a->PN 266 #[Pm k,Pm I.p,QN c n] t (Qg U k M z A t d)) :
  PN 196 #[Pm k,Pm I.p,QN c n] w (Qg U k M z A w d):=by
 have b{G}(h:G:=by
 have o:=Y E;have b{G}(h:G:=by
 have b{G}(h:G:=by
 have m:=Y e;have q:(a.2.kd:Int)=38:=by rw[f]
 exact kY):=Pq h;exact XQ):=Pq h;exact VQ):=Pq h;exact YA
def anK (d:a.2.kd=18)(l:g.steps<=20000)(hst1:g.steps<20000)(c:Pl)(n:Option Addr) :
  PN 196 #[Pm k,Pm I.p,QN c n] w (Qg U k M z A w ((Xx a.2.tx,.no),g.step)):=by
 have b{G}(h:G:=by
 have b{G}(h:G:=by
 have b{G}(h:G:=by
 have f:(a.2.kd:Int)=18:=by rw[d]
 obtain⟨H,O⟩:=xH (Xx a.2.tx);rw[<-O.out];have e:Hid (∀t,PN 254 #[PI a.2.tx] t λj w'=>j=PY (vA H)/\PG t w'):=λt=>by
  show Calls _ _ _ _ _
  rw[O.out];exact ql a.2.tx t
 obtain⟨aK,m⟩:=xH a.2.tx;obtain⟨aH,o⟩:=xH a.2.n;rw[<-m.out] at e;exact sR):=Pq h;exact XQ):=Pq h;exact VQ):=Pq h;exact YA
def akB (d:a.2.kd=19)(l:g.steps<=20000)(hst1:g.steps<20000)(c:Pl)(n:Option Addr) :
  PN 196 #[Pm k,Pm I.p,QN c n] w (Qg U k M z A w ((Ri true,.no),g.step)):=by
 have b{G}(h:G:=by
 have b{G}(h:G:=by
 have b{G}(h:G:=by
 have f:(a.2.kd:Int)=19:=by rw[d]
 obtain⟨H,O⟩:=xH (Ri true);rw[<-O.out];have e:Hid (∀t,PN 255 #[PD true] t λj w'=>j=PY (vA H)/\PG t w'):=λt=>by
  show Calls _ _ _ _ _
  rw[O.out];exact WX true t
 obtain⟨aK,m⟩:=xH a.2.tx;obtain⟨aH,o⟩:=xH a.2.n;exact sR):=Pq h;exact XQ):=Pq h;exact VQ):=Pq h;exact YA
def Wb (d:a.2.kd=20)(l:g.steps<=20000)(hst1:g.steps<20000)(c:Pl)(n:Option Addr) :
  PN 196 #[Pm k,Pm I.p,QN c n] w (Qg U k M z A w ((Ri false,.no),g.step)):=by
 have b{G}(h:G:=by
 have b{G}(h:G:=by
 have b{G}(h:G:=by
 have f:(a.2.kd:Int)=20:=by rw[d]
 obtain⟨H,O⟩:=xH (Ri false);rw[<-O.out];have e:Hid (∀t,PN 255 #[PD false] t λj w'=>j=PY (vA H)/\PG t w'):=λt=>by
  show Calls _ _ _ _ _
  rw[O.out];exact WX false t
 obtain⟨aK,m⟩:=xH a.2.tx;obtain⟨aH,o⟩:=xH a.2.n;exact sR):=Pq h;exact XQ):=Pq h;exact VQ):=Pq h;exact YA
def l5 (d:a.2.kd=17)(l:g.steps<=20000)(hst1:g.steps<20000)(c:Pl)(n:Option Addr) :
  PN 196 #[Pm k,Pm I.p,QN c n] w (Qg U k M z A w ((Yo a.2.n,.no),g.step)):=by
 have b{G}(h:G:=by
 have b{G}(h:G:=by
 have b{G}(h:G:=by
 have f:(a.2.kd:Int)=17:=by rw[d]
 obtain⟨H,O⟩:=xH (Yo a.2.n);rw[<-O.out];have e:Hid (∀t,PN 253 #[Ph a.2.n] t λj w'=>j=PY (vA H)/\PG t w'):=λt=>by
  show Calls _ _ _ _ _
  rw[O.out];exact vL a.2.n t
 obtain⟨aK,m⟩:=xH a.2.tx;obtain⟨aH,o⟩:=xH a.2.n;rw[<-o.out] at e;exact sR):=Pq h;exact XQ):=Pq h;exact VQ):=Pq h;exact YA
def ags (e:a.2.kd=37)(l:g.steps<=20000)(hst1:g.steps<20000)(c:Pl)(n:Option Addr){H:Va}{p:St}(d:∀t,Ms U k M z t g.step->Qc z t I a->PN 265 #[Pm k,Pm I.p,QN c n] t λj w'=>j=PY (vA H)/\Ms U k M z w' p/\Qj none k t w') :
  PN 196 #[Pm k,Pm I.p,QN c n] w (Qg U k M z A w ((H,.no),p)):=by
 have b{G}(h:G:=by
 have o:=Y E;have b{G}(h:G:=by
 have b{G}(h:G:=by
 have m:=Y d;have q:(a.2.kd:Int)=37:=by rw[e]
 clear E a7 bD bb bH d e;go_enter func196,kN;have b{G}(h:G:=by
 have b{G}(h:G:=by
 have b{G}(h:G:=by
 rintro j aK ⟨rfl,ak,ap⟩;have f:=Y (ap.f2 aO.out PK);have aH:=S.trans ap;clear ad aD al af ax aE O;obtain⟨u0,u1,u2,aT,aY,aZ,a6⟩:=Ql f.out;go_wp2_with fail;obtain⟨bh,a1,aM,au,ae,bA,bf,bi⟩:=i1 f.out a8.out aW aH ak (Ph H.k) (Ph H.n) (PI H.s);refine xg ?_;exact⟨⟨_,rfl,rfl⟩,ae,au⟩):=Pq h;exact rQ):=Pq h;exact Cr):=Pq h;exact mL):=Pq h;exact XQ):=Pq h;exact VQ):=Pq h;exact YA
def Q2 (d:a.2.kd=21)(l:g.steps<=20000)(hst1:g.steps<20000)(c:Pl)(n:Option Addr) :
  PN 196 #[Pm k,Pm I.p,QN c n] w (Qg U k M z A w ((qX,.no),g.step)):=by
 have b{G}(h:G:=by
 have b{G}(h:G:=by
 have b{G}(h:G:=by
 have e:(a.2.kd:Int)=21:=by rw[d]
 clear d;clear E a7 bD bb bH;go_enter func196,kN;have b{G}(h:G:=by
 have q:=bF.trans ay;have H:=L.lt;have u:=aX.kp ay.Ve;obtain⟨v,f,_⟩:=u.cells;rw[<-s.out] at v f;rw[e] at f;clear e;obtain⟨u0,u1,u2,O,R,S,ad⟩:=Ql aO.out;go_wp2_with fail;obtain⟨bh,m,D,p,o,bA,bf,bi⟩:=i1 aO.out a8.out aW q L (Ph 1) (Ph 0) (QB);rw[<-m];refine hp (v:=.tuple #[vA qX,RI]) (by simp[results,results196,go_sem,bA,bf,bi,qX]) rfl ?_;exact⟨⟨_,rfl,rfl⟩,o,p⟩):=Pq h;exact mL):=Pq h;exact XQ):=Pq h;exact VQ):=Pq h;exact YA
def O8 (aM:a.2.kd≠17/\a.2.kd≠18/\a.2.kd≠19/\a.2.kd≠20/\a.2.kd≠21/\a.2.kd≠23/\a.2.kd≠24/\a.2.kd≠25/\a.2.kd≠26/\a.2.kd≠27/\a.2.kd≠28/\a.2.kd≠29/\a.2.kd≠30/\a.2.kd≠31/\a.2.kd≠32/\a.2.kd≠33/\a.2.kd≠34/\a.2.kd≠35/\a.2.kd≠36/\a.2.kd≠37/\a.2.kd≠38)(l:g.steps<=20000)(hst1:g.steps<20000)(c:Pl)(n:Option Addr) :
  PN 196 #[Pm k,Pm I.p,QN c n] w (Qg U k M z A w ((vU,.no),g.step)):=by
 have b{G}(h:G:=by
 have b{G}(h:G:=by
 have b{G}(h:G:=by
 obtain⟨ax,aD,aK,m,o,f,a6,p,q,u,D,H,O,S,ad,ae,ba,af,al,aZ,au⟩:=aM;obtain⟨be,e⟩:=xH a.2.kd;rw[<-e.out] at ax aD aK m o f a6 p q u D H O S ad ae ba af al aZ au;clear E a7 bD bb bH;go_enter func196,kN;have b{G}(h:G:=by
 have bJ:=bF.trans ay;have aU:=L.lt;have aR:=aX.kp ay.Ve;obtain⟨aT,d,_⟩:=aR.cells;rw[<-s.out] at aT d;rw[<-e.out] at d;obtain⟨u0,u1,u2,bm,bn,bv,bE⟩:=Ql aO.out;have b{G}(h:G:=by
 rw[<-a1];refine ng (v:=.tuple #[vA vU,RI]) ?_;exact⟨⟨_,rfl,rfl⟩,aE,aH⟩):=Pq h;exact uI):=Pq h;exact mL):=Pq h;exact XQ):=Pq h;exact VQ):=Pq h;exact YA
end
def X1 (bm:kh U k A cP)(ak:Ms U k M z w g){I:Ad}{q:Nd}(aQ:Qc z w I q)(ax:q.2.kd=6)(bS:g.steps<=20000)(hst1:g.steps<20000)(o:Pl){c:Option Va}(ba:P9 w aJ c){D:Pl}{af:St}{ae:(Oc×Er×Option Va)×St}(bY:∀t,Ms U k M z t g.step->Qc z t I q->PN 110 #[Pm k,Pm I.p,QN o (LA aJ)] t λj w'=>j=PY (QN D (LA aJ))/\Ms U k M z w' af/\Qj none k t w')(bX:∀t ck,Ms U k M z t af->Uk 0 t ck I.ks->U7 z t I.ks (QA q)->P9 t aJ c->PN 28 #[Pm k,ck,QN D (LA aJ)] t (QU U k M z A aJ t ae)) :
  PN 53 #[Pm k,Pm I.p,QN o (LA aJ)] w (QU U k M z A aJ w ae):=by
 have b{G}(h:G:=by
 have b{G}(h:G:=by
 have b{G}(h:G:=by
 have b{G}(h:G:=by
 have b1:=Y E;have b{G}(h:G:=by
 have b{G}(h:G:=by
 have ce:=Y bY;have cp:=Y bX;have bL:(q.2.kd:Int)=6:=by rw[ax]
 clear E a7 b8 bb cg bY bX ax;go_enter func53,jH;have b{G}(h:G:=by
 have r:=Y (ay.f2 b1.out PK);have b{G}(h:G:=by
 obtain⟨b2,b7,s,bW⟩:=a6.ar;obtain⟨cj,bU⟩:=xE q.2.fS.length;rw[<-bU] at s bW;have cy:=a6.l8;have u:=a6.gG;rw[<-bI.out] at bE aE s u;rw[bL] at aE;have b6:=Y s;have cr:=Y u;have cG:=fR r.out;clear bL s u bU;go_wp2_with fail;have a:Qj none k wz wz.drew:=Qj.of RV.drew (Qe bK);have bN:=Pj ce _ (L.fQ (gi _ wz).drew) (a6.kp (Kp.of (gi _ wz).drew));rw[<-bI.out,<-bQ.out] at bN;refine Qd 9 (λt=>Qj none k wz t) Qz ?_;refine kT ?_
 refine uc 4 (.slice b2 cj b7) rfl (fU ⟨by kernel_rfl,λt f=>by have aD:=f.Ve.UY b6.out cr.out (fU rfl);go_simp⟩) (a) ?_
 refine up 5 k 0 a ?_;refine up 6 al 0 a ?_;refine uc 7 (.agg #[Ph F,Ph B,PD C,.pointer n]) rfl (fU ⟨by kernel_rfl,λt f=>by have aD:=(fV (f.f2 r.out PK)).1;have ah:=(fV (f.f2 r.out PK)).2.1;have aL:=(fV (f.f2 r.out PK)).2.2.1;have p:=(fV (f.f2 r.out PK)).2.2.2.1;go_simp⟩) (a) ?_
 refine QX 8 λK d=>?_;go_simp;refine cm bN ?_;rintro j aT ⟨rfl,cE,cC⟩;have e:Qj none k wz aT:=a.trans cC;refine d.out _ _ (λ_=>e) ?_;clear d K;have bv:=Pj cp aT _ cE (bW.kp e.Ve) (U7.kp e.Ve _ _ cy) (bn.f2 e);rw[<-bQ.out] at bv;have cB:=Y (e.f2 aO.out PK);have cw:=bJ.trans e;have bZ:=bn.f2 e;refine QX 9 λK d=>?_;go_simp;refine cm bv ?_;have b{G}(h:G:=by
 have bR:=Y (ap.TY bZ cB.out PK PK);have cx:=cw.up.trans ap;obtain⟨bA,cq⟩:=xH ae.1.1;rw[<-cq.out];obtain⟨u0,u1,u2,u3,cH,cJ,cK,cQ,cL⟩:=SA bR.out;refine uz 10 (XD bA) ?_;refine uz 11 p ?_;refine VH 12 ?_;refine uz 13 p ?_;refine Ud ?_ _;go_simp;exact xX):=Pq h;exact m5):=Pq h;exact qM):=Pq h;exact mL):=Pq h;exact uR):=Pq h;exact VQ):=Pq h;exact j9):=Pq h;exact YL):=Pq h;exact jA):=Pq h;exact j2
def sw:Er->Bool
 |.no=>true
 |_=>false
def abL (bm:kh U k A cP)(ak:Ms U k M z w g){I:Ad}{aO:Nd}(aQ:Qc z w I aO)(bU:aO.2.kd=10)(bS:g.steps<=20000)(hst1:g.steps<20000)(o:Pl){c:Option Va}(ba:P9 w aJ c){e:Va}{u:Er}{bH:St}(bR:∀t ck,Ms U k M z t g.step->Qc z t I aO->Uk 0 t ck I.ks->PN 114 #[Pm k,ck,QN o (LA aJ)] t (Qg U k M z A t ((e,u),bH))) :
  PN 53 #[Pm k,Pm I.p,QN o (LA aJ)] w (QU U k M z A aJ w ((⟨sw u,e⟩,u,c),bH)):=by
 have b{G}(h:G:=by
 have b{G}(h:G:=by
 have b{G}(h:G:=by
 have b{G}(h:G:=by
 have cp:=Y E;have b{G}(h:G:=by
 have b{G}(h:G:=by
 have au:=bm.X8;have cj:=Y bR;have bX:(aO.2.kd:Int)=10:=by rw[bU]
 clear E a7 b8 bb cg bR bU;go_enter func53,jH;go_wp2_with fail;refine iJ ?_;clear bx bq;refine cm bo ?_;rintro j aH ⟨rfl,L,ay⟩;have cr:=Y (ay.f2 bG.out PK);have bW:=Y (ay.f2 cp.out PK);have b{G}(h:G:=by
 obtain⟨cG,cL,a1,b2⟩:=a6.ar;obtain⟨cT,b1⟩:=xE aO.2.fS.length;rw[<-b1] at a1 b2;have ax:=Y (λt (f:PG aH t)=>Pj cj t _ (L.fQ f) (a6.kp (Kp.of f)) (b2.fQ f));rw[<-bQ.out] at ax;rw[<-bI.out] at bE aE a1;rw[bX] at aE;have cq:=Y a1;have cw:=Y (fV bW.out);have cZ:=fR bW.out;clear bX a1 b1;go_wp2_with fail;refine WY (H:=λwz D p=>VB U k M z A aH e u bH wz D p) (G:=?GG) (λaT=>?ways) ?rest
 case ways=>
  refine UG 6 λa=>?_;refine kT ?_;refine uk 4 cq.out a ?_;refine kx 5 cw.out a ?_;refine jZ 6 10 (λK d=>?_) λK d=>?_
  ·go_simp;refine mp ?_;have b{G}(h:G:=by
   refine sU ?_;refine VH 10 ?_;refine qh ?_;have ae:=VB.late (v:=e) aK ak ((Qj.of a (Qe bK)).trans ap);exact qQ):=Pq h;exact kW
  ·go_simp;refine kS ?_;clear d K;refine QX 6 λK d=>?_;go_simp;refine oi ?_;have b{G}(h:G:=by
   have q:aR.heap[aH.heap.size]?=some (Qb #[Ph 0,Ph 0,QB] 65):=ap.f2 (Pz _ _) PK;obtain⟨bh,s,bi,aY,be,bf,bv⟩:=Ql q;refine sU ?_;refine qh ?_;have ae:=VB.early (v:=e) q Qq (Qe bK) aK ak ((Qj.of (QK.drew) (Qe bK)).trans ap)
   generalize ((aR.setCell (Pn aH.heap.size 0) (Ph e.k)).setCell (Pn aH.heap.size 1) (Ph e.n)).setCell (Pn aH.heap.size 2) (PI e.s)=wz at ae ⊢
   generalize aH.heap.size=D at ae ⊢
   exact aT wz D p ae):=Pq h;exact kW
 case rest=>
  rintro cU D p q;have bD:=Y (q.fr.f2 cr.out PK);have bZ:=bJ.trans q.fr;have cx:=bn.f2 q.fr;have bY:=Y (f7 q.v);have b7:=q.ms;have cy:=q.er;have cB:=q.ms.lt;have cX:=fR q.v;obtain⟨cQ,cC,cE,cR,cH,cJ,cK,cY,c8⟩:=SA bD.out
  by_cases s:u=.no
  ·have bA:p=RI:=by have h:=q.er;rw[s] at h;exact h
   subst bA;have ci:Hid (sw u=true):=by rw[s];rfl
   go_wp2_with fail;refine UG 5 λa=>?_;refine uh 0 RI (a) ?_;refine uh 1 (PD true) (a) ?_;refine jY 2 bY.out a ?_;refine uh 3 (.agg #[PD true,Ph e.k,Ph e.n,PI e.s]) (a) ?_;refine uh 4 RI (a) ?_;refine VH 5 ?_;refine uz 6 RI ?_;refine Ud ?_ _;go_simp;go_wp2_with fail;obtain⟨aY,bv,bN,ce,bL,bf,bh,be,bi⟩:=kb bD.out a8.out aW (Qj.up (L:=aJ) bZ) b7 (PD true) (Ph e.k) (Ph e.n) (PI e.s);rw[<-bv];refine XE (v:=.tuple #[XD ⟨true,e⟩,RI]) ?_;exact BN
  ·obtain⟨ae,aK,bA⟩:=q.er.X8 s au;subst bA;have ci:Hid (sw u=false):=by
    show _=_
    exact kc
   go_wp2_with fail;refine UG 5 λa=>?_;refine uh 0 (.iface ae aK) (a) ?_;refine uh 1 (PD false) (a) ?_;refine jY 2 bY.out a ?_;refine uh 3 (.agg #[PD false,Ph e.k,Ph e.n,PI e.s]) (a) ?_;refine uh 4 (.iface ae aK) (a) ?_;refine VH 5 ?_;refine uz 6 (.iface ae aK) ?_;refine Ud ?_ _;go_simp;go_wp2_with fail;obtain⟨aY,bv,bN,ce,bL,bf,bh,be,bi⟩:=kb bD.out a8.out aW (Qj.up (L:=aJ) bZ) b7 (PD false) (Ph e.k) (Ph e.n) (PI e.s);rw[<-bv];refine XE (v:=.tuple #[XD ⟨false,e⟩,.iface ae aK]) ?_;exact BN):=Pq h;exact qM):=Pq h;exact uR):=Pq h;exact VQ):=Pq h;exact j9):=Pq h;exact YL):=Pq h;exact jA):=Pq h;exact j2
def pW {w:Py}{a:Nat}{x:PO}{c:TypeId}(h:w.heap[a]?=some (Qb #[x] c)):w.cell? (Pn a 0)=some x/\(∀b,w.frozen? (Pn a b)=false)/\a<w.heap.size:=by
 refine⟨?_,λb=>?_,fR h⟩
 ·rw[cell_of h];rfl
 ·simp[World.frozen?,h]
section
variable (ae:kh U k A cP)(ak:Ms U k M z w g){I:Ad}{d:Nd}(D:Pl)(aM:Oc){c:Option Va}(al:P9 w aJ c)
include ae ak I d D aM c al
def Lz :
  PN 201 #[Pm k,Pm I.p,QN D (LA aJ),XD aM,RI] w (QU U k M z A aJ w (XP X d D aM .no c g)):=by
 obtain⟨a7,f⟩:=xE (LA aJ);rw[<-f];have b{G}(h:G:=by
 have b{G}(h:G:=by
 have b{G}(h:G:=by
 have O:PN 32 #[RI,.iface 123 (PZ E 0)] w2 λj w'=>j=PY (PD false)/\PG w2 w':=(ID E w2 123).mono (by rintro j w' ⟨rfl,rfl⟩;exact⟨rfl,RV⟩)
 obtain⟨ax,e⟩:=xE I.p;obtain⟨au,a⟩:=xE (XP X d ⟨B,C,F⟩ ⟨n,⟨o,on,s⟩⟩ .no c g);rw[<-a,<-e];have m:au=((⟨n,⟨o,on,s⟩⟩,.no,c),g):=a;have b{G}(h:G:=by
 refine XE (v:=.tuple #[XD ⟨n,⟨o,on,s⟩⟩,RI]) ?_;rw[u.out];exact⟨⟨_,rfl,rfl⟩,p,q,L.UJ r⟩):=Pq h;exact y0):=Pq h;exact xe):=Pq h;exact om):=Pq h;exact s8
def Sf :
  PN 201 #[Pm k,Pm I.p,QN D (LA aJ),XD aM,.iface 34 (Ph 7)] w (QU U k M z A aJ w (XP X d D aM .iZ c g)):=by
 obtain⟨a7,f⟩:=xE (LA aJ);rw[<-f];have b{G}(h:G:=by
 have b{G}(h:G:=by
 have b{G}(h:G:=by
 have O:PN 32 #[.iface 34 (Ph 7),.iface 123 (PZ E 0)] w2 λj w'=>j=PY (PD false)/\PG w2 w':=O7 7 E w2 ad (tf 0) tl S;obtain⟨ax,e⟩:=xE I.p;obtain⟨au,a⟩:=xE (XP X d ⟨B,C,F⟩ ⟨n,⟨o,on,s⟩⟩ .iZ c g);rw[<-a,<-e];have m:au=((⟨n,⟨o,on,s⟩⟩,.iZ,c),g):=a;have b{G}(h:G:=by
 refine XE (v:=.tuple #[XD ⟨n,⟨o,on,s⟩⟩,.iface 34 (Ph 7)]) ?_;rw[u.out];exact⟨⟨_,rfl,rfl⟩,p,q,L.UJ r⟩):=Pq h;exact y0):=Pq h;exact xe):=Pq h;exact om):=Pq h;exact s8
def akv :
  PN 201 #[Pm k,Pm I.p,QN D (LA aJ),XD aM,.iface 359 (.pointer (some cP))] w (QU U k M z A aJ w (XP X d D aM .stop c g)):=by
 obtain⟨a7,f⟩:=xE (LA aJ);rw[<-f];have b{G}(h:G:=by
 have b{G}(h:G:=by
 have b{G}(h:G:=by
 have O:PN 32 #[.iface 359 (.pointer (some cP)),.iface 123 (PZ E 0)] w2 λj w'=>j=PY (PD false)/\PG w2 w':=Ir cP E w2 ad (tf 0) tl S;have ax:=Y ae.is;obtain⟨a1,e⟩:=xE I.p;obtain⟨au,a⟩:=xE (XP X d ⟨B,C,F⟩ ⟨n,⟨o,on,s⟩⟩ .stop c g);rw[<-a,<-e];have m:au=((⟨n,⟨o,on,s⟩⟩,.stop,c),g):=a;have b{G}(h:G:=by
 refine XE (v:=.tuple #[XD ⟨n,⟨o,on,s⟩⟩,.iface 359 (.pointer (some cP))]) ?_;rw[u.out];exact⟨⟨_,rfl,ax.out.symm⟩,p,q,L.UJ r⟩):=Pq h;exact y0):=Pq h;exact xe):=Pq h;exact om):=Pq h;exact s8
end
def Mh (dX:kh U k A cP)(dQ:Bs U k M z A)(ak:Ms U k M z w g){I:Ad}{u:Nd}(aQ:Qc z w I u)(af:u.2.fS.length=1)(D:Pl)(aM:Oc)(ae:Nat)(x:Va)(b2:w.heap[ae]?=some (Qb #[Ph x.k,Ph x.n,PI x.s] 126)){c:Option Va}(ba:P9 w aJ c)(dO:Sz cS g)(db:cS<1000000000)(dh:(g.M.ro D.scope).isSome=true)(cZ:Sz cS (g.gv D.scope (-1) (own u)))(ah:YK U k M z A ((g.gv D.scope (-1) (own u)).ho g.gu u.2.tx 0 x) (Px u 0) { D with scope:=g.gu } aJ c (X.s (Px u 0) { D with scope:=g.gu } c ((g.gv D.scope (-1) (own u)).ho g.gu u.2.tx 0 x))) :
  PN 201 #[Pm k,Pm I.p,QN D (LA aJ),XD aM,.iface 122 (PZ ae 0)] w (QU U k M z A aJ w (XP X u D aM (.Y3 x) c g)):=by
 obtain⟨a7,dg⟩:=xH (LA aJ);rw[<-dg.out];have b{G}(h:G:=by
 have b{G}(h:G:=by
 have du{G}(h:G:=by
 have dU:=Y cE;have dv:=Y aI;have dY:=Y bW;have a8:=Y bG;have bE:=Y bN;have bL:=Y cH;have dx:=Y cG;have ek:=Y ay;have eO:=ba.fQ bF;obtain⟨di,tf,tl⟩:=pW bI;have dc:=dX.t8 bS;have en:=F5 ae E w2 bI di (tf 0) tl dc;have eV:=fR b2;have cR:ae≠H:=Pv;have dF:=Y cR;have dG:=Y b2;have dz:=ak;have ea:=Y af;have dH:=Y dh;obtain⟨al,bo⟩:=xH I.p;obtain⟨cy,df⟩:=xH (own u:Int);obtain⟨q,b1⟩:=xH (g.gu:Int)
 obtain⟨dS,bY⟩:=xH (g.gv B (-1) (own u));obtain⟨dt,cT⟩:=xH ((g.gv B (-1) (own u)).ho g.gu u.2.tx 0 x);obtain⟨aE,cg⟩:=xE (XP X u ⟨B,C,F⟩ ⟨n,⟨o,on,s⟩⟩ (.Y3 x) c g);have d4:YK U k M z A dt (Px u 0) ⟨q,C,F⟩ aJ c aE:=by
  show YK _ _ _ _ _ _ _ _ _ _ _
  rw[cg,b1.out,cT.out];exact ah
 rw[<-cg,<-bo.out];clear af cE bW cK bI aI cg bN bG cH cG ay di tf tl dc b2 dh ah cR;go_enter func201,ntmps201;go_wp2_with fail;refine Bq ?_;clear bU bx bX cJ cQ;refine cm en ?_;rintro j wz ⟨rfl,dq,cp⟩;have ay:=Pj ek;have bv:PG w wz:=bF.trans (cp.mono ay.2.2.2);have dN:=Y dq;have ce:=Y ((cp.block H ay.1).trans dU.out);have d9:=Y ((cp.block N ay.2.2.1).trans dY.out);have cw:=dz.fQ bv;have ec:=ba.fQ bv;have cB:=aQ.kp (Kp.of bv);have ew:=Y (fZ bv dG.out)
 have d3:=Qj.of (L:=none) bv (Qe aW);have eE:=Y (fV ce.out);have d6:=cw.lt;have eR:=fR ce.out;have eP:al<wz.heap.size:=by rw[bo.out];exact cB.cells.1
 have dC:Hid (∀t,PG wz t->PN 51 #[Pm k,Pm al] t λj w'=>j=PY (Ph cy)/\PG wz w'):=λt f=>by
  obtain⟨_,_,_,_,aZ⟩:=cw.fQ f;rw[bo.out,df.out];exact(ZH dQ aZ (cB.kp (Kp.of f))).mono (by rintro j w' ⟨rfl,rfl⟩;exact⟨rfl,f⟩)
 have d2:Hid (∀t,PG wz t->PN 50 #[Pm k,Ph B,Ph (-1),Ph cy] t λj w'=>j=PY (Ph q)/\Ms U k M z w' dS/\Qj none k wz w'):=λt f=>by
  obtain⟨_,_,_,_,aZ⟩:=cw.fQ f;refine(pq aZ dO db B (-1) cy dH.out).mono ?_;rintro j w' ⟨rfl,e,cn,b8⟩;rw[b1.out,bY.out,<-df.out];exact⟨rfl,⟨_,_,_,_,cn⟩,(Qj.of f (Qe d6)).trans (b8.jy aZ)⟩
 clear dq ay;go_wp2_with fail;refine UG 6 λa=>?_;refine up 0 k 0 a ?_;refine up 1 H 0 a ?_;refine uk 2 (eE.out.1) a ?_;refine up 3 k 0 a ?_;refine up 4 al 0 a ?_;refine QX 5 λK d=>?_;go_simp;refine cm (Pj dC _ a) ?_;rintro j eL ⟨rfl,cX⟩;refine d.out _ _ (λ_=>cX) ?_;clear d K;refine QX 6 λK d=>?_;go_simp;refine cm (Pj d2 _ cX) ?_;rintro j bb ⟨rfl,d7,aO⟩;refine ko d ?_;clear d K;have L:=Y (aO.f2 ce.out PK);have bn:=Y (aO.f2 d9.out PK);have dJ:=Y (aO.f2 dN.out PK)
 have d5:=Y (aO.f2 ew.out PK);have ey:=ec.f2 aO;have d1:=d3.trans aO;have el:=cB.kp aO.Ve;obtain⟨dP,eu,d0,dZ,a6,d8⟩:=fV L.out;have b{G}(h:G:=by
 have eh:Kp bb (bb.setCell (Pn H 0) (Ph q)):=λO m j ad dR=>ax.rest O m j ad (by rcases dR with rfl|rfl <;> decide);have cr:=d7.ZR ax PK;have bQ:=Y (ZI L.out (Ph q));have ei:Hid (aX.heap[N]?=some (Qb #[PD false,Ph 0,Ph 0,QB] 67)):=tg
 have cU:Hid (aX.heap[E]?=some (Qb #[PZ ae 0] 122)):=by
  show _=_
  rw[aT,gY _ _ _ _ (hV dx.out)];exact Pj dJ
 have da:Hid (aX.heap[ae]?=some (Qb #[Ph x.k,Ph x.n,PI x.s] 126)):=by
  show _=_
  rw[aT,gY _ _ _ _ dF.out];exact Pj d5
 have c8:=d1.ia ax (tN bE.out _);have dm:=ey.UJ ax;have cz:=el.kp eh;rw[<-aT] at cr bQ c8 dm cz ⊢;have eG:=Y (fV bQ.out);have dM:=Y (pW cU.out);have dE:=Y (f7 da.out);have ee:=cr.lt;have eN:=fR bQ.out;have eK:=fR cU.out;have eQ:=fR da.out;obtain⟨dj,b5⟩:=xE u.2.tx;have bP:=cz.cells;rw[<-bo.out,<-b5] at bP;have eD:=Y bP;have eW:=bP.1
 have eF:Hid (∀t,PG aX t->PN 128 #[Pm k,Ph q,PI dj,Ph 0,vA x] t λj w'=>(∃p,j=PY p)/\Ms U k M z w' dt/\Qj none k aX w'):=λt f=>by
  obtain⟨_,_,_,_,aZ⟩:=cr.fQ f;rw[<-bY.out] at cZ;refine(Yt aZ cZ db q dj 0 x).mono ?_;rintro j w' ⟨rfl,cn,b8⟩;rw[cT.out,<-bY.out,<-b1.out,<-b5];exact⟨⟨_,rfl⟩,⟨_,_,_,_,cn⟩,(Qj.of f (Qe ee)).trans (Qj.j6 b8)⟩
 clear aT dP eu d0 dZ d8 cC bP b5;go_wp2_with fail;refine UG 13 λa=>?_;refine iF ?_;refine up 3 H 0 a ?_;refine uk 4 (eG.out.1) a ?_;refine sl ?_;refine uk 8 (eD.out.2.2.1) a ?_;refine uk 9 (dM.out.1) a ?_;refine up 10 ae 0 a ?_;refine up 11 ae 0 a ?_;refine jY 12 dE.out a ?_;refine QX 13 λK d=>?_;go_simp;refine cm (Pj eF _ a) ?_;rintro j dT ⟨⟨p,rfl⟩,dp,br⟩;refine ko d ?_;clear d K;have dd:=Y (br.f2 bQ.out PK);have eg:=Y (br.f2 ei.out PK);have dr:=dm.f2 br
 have ed:=c8.trans br;have ep:=cz.kp br.Ve;refine Ud ?_ _;go_simp;have cY:=Pj ea;obtain⟨de,bJ,eM,bq,bK,ef,_⟩:=ep.Zm (a:=0) Pv;rw[cY] at bq;obtain⟨eS,b7⟩:=xE de.p;have dD:=Y (fV dd.out);have bm:=Y (λt (f:PG dT t)=>d4 t de (dp.fQ f) (ef.kp (Kp.of f)) (dr.fQ f));rw[<-dg.out,<-b7] at bm;rw[<-bo.out] at bq;rw[<-b7] at bK;have cj:=Y bq;have eo:=Y bK;have ej:=dp.lt;have eT:=fR dd.out;have eU:=f1 bq;have eJ:=f1 bK;clear cY bq bK b7
 go_wp2_with fail;refine UG 8 λa=>?_;refine rN ?_;refine uk 6 eo.out a ?_;refine kx 7 dD.out a ?_;refine QX 8 λK d=>?_;go_simp;refine pS ?_;have b{G}(h:G:=by
 have bZ:=(Qj.of (L:=aJ) a (Qe ej)).trans ap;have bR:=Y (bZ.TY dr eg.out PK PK);have cx:=ed.up.trans bZ;exact ux):=Pq h;exact m5):=Pq h;exact x6):=Pq h;exact Bf):=Pq h;exact om):=Pq h;exact s8
def K8 (e:kh U k A cP)(r:Bs U k M z A)(f:Ms U k M z w g){n:Ad}{b:Nd}(B:Qc z w n b)(o:b.2.fS.length=1)(a:Pl)(d:Oc){j:Er}{c:PO}(i:Yu A w c j){m:Option Va}(l:P9 w aJ m)(v:cS<1000000000)(u:∀x,j=.Y3 x->Sz cS g/\(g.M.ro a.scope).isSome=true/\Sz cS (g.gv a.scope (-1) (own b))/\YK U k M z A ((g.gv a.scope (-1) (own b)).ho g.gu b.2.tx 0 x) (Px b 0) { a with scope:=g.gu } aJ m (X.s (Px b 0) { a with scope:=g.gu } m ((g.gv a.scope (-1) (own b)).ho g.gu b.2.tx 0 x))) :
  PN 201 #[Pm k,Pm n.p,QN a (LA aJ),XD d,c] w (QU U k M z A aJ w (XP X b a d j m g)):=by
 cases j with
 |no=>obtain rfl:c=.nilIface:=i;exact Lz e f a d l
 |stop=>rw[show c=.iface 359 (.pointer (some cP)) from (show c=A from i).trans e.is];exact akv e f a d l
 |iZ=>obtain rfl:c=.iface 34 (Ph 7):=i;exact Sf e f a d l
 |Y3 x=>
  obtain⟨C,rfl,h⟩:=i;obtain⟨p,s,q,t⟩:=u x rfl;exact Mh e r f B o a d C x h l p v s q t
def VK (X:Fx)(a:Nd)(e:Pl)(d:Oc)(b:Er)(c:Option Va)(g:St):(Oc×Er×Option Va)×St:=if a.2.kd=13 then XP X a e d b c g else V7 X a e d b c g
def aJh (U:Py)(k M:Nat)(z:List Nat)(A:PO)(X:Fx)(aJ:Option Nat)(b:Nd)(d:Pl)(c:Oc)(f:Er)(j:Option Va)(g:St):Prop:=
 ∀a (e:Ad)(i:PO),Ms U k M z a g->Qc z a e b->P9 a aJ j->Yu A a i f ->
  (b.2.kd=13->PN 201 #[Pm k,Pm e.p,QN d (LA aJ),XD c,i] a (QU U k M z A aJ a (XP X b d c f j g))) /\
  (b.2.kd≠13->PN 202 #[Pm k,Pm e.p,QN d (LA aJ),XD c,i] a (QU U k M z A aJ a (V7 X b d c f j g)))
def NU {w:Py}{e:PO}{f:List Ad}{i d c:Nat}(h:Uk 0 w e f)(b:e=.slice (some (Pn i 0)) d c):d<=c:=by
 rcases h.1.2 with ⟨a,_⟩|⟨n,j,m,a,_,_,l,_⟩
 ·rw[b] at a;cases a
 ·rw[b] at a;simp only[g7] at a;omega
def tail_drop (a:List Nd)(b:Nat)(h:b+1<a.length):a.tail.drop b=a[b+1]::a.tail.drop (b+1):=by
 have c:b<a.tail.length:=by rw[lN];omega
 rw[h7 c,List.getElem_tail]
def KI {a:Pl}{f:Nd}{i:List Nd}{l c:Oc}{e b:Er}{j d:Option Va}{m:St}(h:VK X f a l e j g=((c,b,d),m)):kX X a (f::i) l e j g=kX X a i c b d m:=by
 rw[kX];unfold VK at h;simp only[h]
def UT (_:ip A)(ak:Ms U k M z w g){I:Ad}{s:Nd}(aQ:Qc z w I s){ds:Nat}(af:s.2.fS.length=ds+1)(el:1<=ds)(ep:ds<1000000)(o:Pl){c:Option Va}(ba:P9 w aJ c)(aD:YK U k M z A g (Px s 0) o aJ c (X.s (Px s 0) o c g))(P:Oc->Er->Option Va->St->Prop)(hP:∀aM j u L,X.s (Px s 0) o c g=((aM,j,u),L)->P aM j u L)(cR:∀i ∈ (QA s).tail,∀aM j c g,P aM j c g->aJh U k M z A X aJ i o aM j c g/\∀q a1 u L,VK X i o aM j c g=((q,a1,u),L)->P q a1 u L) :
  PN 116 #[Pm k,Pm I.p,QN o (LA aJ)] w (QU U k M z A aJ w (let bI:=X.s (Px s 0) o c g;kX X o (QA s).tail bI.1.1 bI.1.2.1 bI.1.2.2 bI.2)):=by
 have b{G}(h:G:=by
 have b{G}(h:G:=by
 have b{G}(h:G:=by
 have b{G}(h:G:=by
 have dv:=Y E;have bE:=Y (fV E);have b{G}(h:G:=by
 obtain⟨ee,dz,bv,bD⟩:=aX.ar;rw[af] at bv bD;have cY:I.ks.length=ds+1:=by rw[aX.ks,af]
 have dS:(QA s).length=ds+1:=by rw[Tz,af]
 obtain⟨cC,eg,db,eu,bA,dt⟩:=bD.cell 0 Pv;simp only[g7] at db;obtain⟨rfl,dr,rfl⟩:=db;clear dr;have ec:dz≠1:=by have:=NU bD rfl;omega
 have cX:Qc z w2 (I.ks[0]'Pv) (Px s 0):=by
  obtain⟨i,a,bZ,d⟩:=aX.Ih (d:=0) Pv;rw[gq Pv] at a;cases a;exact d
 have dC:=aX.l8;obtain⟨al,bJ⟩:=xE I.p;obtain⟨da,cZ⟩:=xE (I.ks[0]'Pv);rw[<-cZ] at bA cX;obtain⟨en,cT⟩:=xE da.p;have ax:=Y (λt (f:PG w2 t)=>aD t da (br.fQ f) (cX.kp (Kp.of f)) ((ba.fQ aI).fQ f))
 rcases T:X.s (Px s 0) ⟨F,B,C⟩ c g with ⟨⟨q,a1,u⟩,L⟩
 rw[T] at ax;obtain⟨bX,cQ⟩:=xH (kX X ⟨F,B,C⟩ (QA s).tail q a1 u L)
 show Calls _ _ _ _ (QU U k M z A aJ w (kX X ⟨F,B,C⟩ (QA s).tail q a1 u L))
 rw[<-cQ.out,<-bJ];have bN:=aX.gG;rw[<-bJ] at bv b5 bN;rw[<-cT] at bA ax;rw[<-bQ.out] at ax;have cE:=Y bv;have cU:=Y bA;have dH:=Y bN;have dp:=Y cY;have cG:=Y dS;have dM:=Y (hP _ _ _ _ T);have du:=Y cR;have bm:=ba.fQ aI;have dO:=Y (tail_drop (QA s));clear E a7 T bJ aD b8 bb cg bv bA cT bN hP cR cZ dt cY af;go_enter func116,ntmps116;go_wp2_with fail;refine iJ ?_;clear bx bq
 refine WY (H:=λwz D p=>SB U k M z A aJ w2 q a1 u L wz D p) (G:=?GG) (λaT=>?ways) ?rest
 case ways=>
  exact rS
 case rest=>
  rintro wz cx p r;have dm:=r.fr.tU bm;have eh:=bF.up.trans r.fr;have dK:=r.ms;have dP:=r.er;have dE:=r.la;have dk:=Y r.o;have dc:=Y r.ob;have ei:=r.ms.lt;have d9:cx≠N:=λj=>by
   have ah:=r.ob;have aL:=fR bG.out;omega
  have cJ:=dm.UY cE.out dH.out (fU rfl);have dR:=f1 cJ;have dQ:=r.fr;go_wp2_with fail;clear cJ dR
  go_loopw [9,30] (λp l wr=>∃(i:Nat)(bo:Oc)(e:Er)(d:Option Va)(a:St),i<=ds/\l=Ph i/\Ms U k M z wr a/\P bo e d a/\Qj aJ k w2 wr/\P9 wr aJ d/\wr.heap[cx]?=some (Ep bo)/\Yu A wr p e/\bX=kX X ⟨F,B,C⟩ ((QA s).tail.drop i) bo e d a) (λ_ l _=>ds - (intOf l).toNat)
  case atStart=>exact⟨0,q,a1,u,L,ge _,rfl,dK,dM.out,dQ,dE,dk.out,dP,cQ.out⟩
  case round=>
   obtain⟨i,bo,e,d,a,eo,rfl,ak,bS,ap,c8,bY,cH,bH⟩:=hrel;have dF:=ak;have dd:=c8;have b2:=Y bY;have di:=cH;have ek:=ak.lt;have cK:=ap.tU bm;have cL:=Y (ap.TY bm bG.out PK PK);have dj:=Y (ap.TY bm dv.out PK PK);obtain⟨aH,⟨aE,ae,ay⟩⟩:=bo
   by_cases ed:i<ds
   ·have bK:i+1<I.ks.length:=by rw[dp.out];omega
    have bL:i+1<(QA s).length:=by rw[cG.out];omega
    obtain⟨ej,ef,ck,dG,b3,dt⟩:=(bD.kp cK).cell (i+1) bK;simp only[g7,he,iO] at ck;obtain⟨⟨bz,dq⟩,dL⟩:=ck;have bR:=U7.get _ _ (U7.kp cK _ _ dC) (i+1) bK bL;obtain⟨aO,be⟩:=xE ((QA s)[i+1]);obtain⟨cA,bW⟩:=xE (I.ks[i+1]);rw[<-be,<-bW] at bR;rw[<-bW,<-bz,Nat.add_comm] at b3;rw[<-bz] at dG;have cO:aO ∈ (QA s).tail:=by
     have dx:i<(QA s).tail.length:=by rw[lN];omega
     rw[be,<-List.getElem_tail dx];exact gU _
    obtain⟨aY,cV⟩:=Pj du aO cO ⟨aH,⟨aE,ae,ay⟩⟩ e d a bS;have aY:=aY _ cA _ ak bR c8 cH;rw[<-bQ.out] at aY;obtain⟨ew,bU⟩:=xE cA.p;rw[<-bU] at b3 aY;have cM:=bR.cells;rw[<-bU] at cM;obtain⟨ea,df,dN⟩:=cM;obtain⟨dJ,bn⟩:=xE aO.2.kd;rw[<-bn] at df aY
    rcases bf:VK X aO ⟨F,B,C⟩ ⟨aH,⟨aE,ae,ay⟩⟩ e d a with ⟨⟨ad,b7,dh⟩,de⟩
    have d6:=Y (cV _ _ _ _ bf);have dT:Hid (bX=kX X ⟨F,B,C⟩ ((QA s).tail.drop (i+1)) ad b7 dh de):=by
     show _=_
     rw[bH,Pj dO i bL,<-be];exact KI bf
    have dD:(i:Int)<(ds:Int):=Pv;have d2:=Y bf;clear bS bY bH be bW cO cV bf bK bL bz bU dt dq dL dN;obtain⟨dZ,d7,d1,d0,_,d3⟩:=fV dj.out;obtain⟨cq,cj,cr,cy,cp,b1,cw,cB,cn⟩:=SA b2.out
    by_cases bh:dJ=13
    ·have ce:=aY.1 bh;have b6:VK X aO ⟨F,B,C⟩ ⟨aH,⟨aE,ae,ay⟩⟩ e d a=XP X aO ⟨F,B,C⟩ ⟨aH,⟨aE,ae,ay⟩⟩ e d a:=fY (bn ▸ bh);exact IL
    ·have ce:=aY.2 bh;have b6:VK X aO ⟨F,B,C⟩ ⟨aH,⟨aE,ae,ay⟩⟩ e d a=V7 X aO ⟨F,B,C⟩ ⟨aH,⟨aE,ae,ay⟩⟩ e d a:=fT (bn ▸ bh);exact IL
   ·have bn:i=ds:=Pv;have ad:bX=((⟨aH,⟨aE,ae,ay⟩⟩,e,d),a):=by rw[bH,bn,List.drop_eq_nil_of_le (by rw[lN,cG.out];omega)];rfl
    have bR:=Y ad;have dD:¬ (i:Int)<(ds:Int):=Pv;have bU:=bF.up.trans ap;obtain⟨cM,bW,b3,cV,b6,b7,ce,de,df⟩:=SA cL.out;obtain⟨cq,cj,cr,cy,cp,b1,cw,cB,cn⟩:=SA b2.out;clear ad bn bS bY bH;go_wp2_with fail;obtain⟨aY,aO,a6,bL,bK,bf,bh,be,bi⟩:=kb cL.out a8.out aW bU dF (PD aH) (Ph aE) (Ph ae) (PI ay);rw[<-aO];refine XE (v:=.tuple #[XD ⟨aH,⟨aE,ae,ay⟩⟩,u9]) ?_;rw[bR.out];exact⟨⟨_,rfl,di.RP a6 PK⟩,bK,bL,dd.UJ a6⟩):=Pq h;exact VQ):=Pq h;exact j9):=Pq h;exact YL):=Pq h;exact jA):=Pq h;exact j2
def aqk (au:ip A)(ak:Ms U k M z w g){I:Ad}{bo:Nd}(aQ:Qc z w I bo)(af:bo.2.fS.length=2)(o:Pl){c:Option Va}(ba:P9 w aJ c)(cG:Nat)(P:Nat->St->Option Va->Prop)(hP:P cG g c)(dU:∀g c,¬ P 0 g c)(dE:∀i g c,P (i+1) g c->UH U k M z A g (Px bo 0) o (X.v (Px bo 0) o g)/\∀v bI,X.v (Px bo 0) o g=((v,.no),bI)->v.jv=true->YK U k M z A bI (Px bo 1) o aJ c (X.s (Px bo 1) o c bI)/\∀aM bH bE,X.s (Px bo 1) o c bI=((aM,.no,bH),bE)->P i bE bH) :
  PN 112 #[Pm k,Pm I.p,QN o (LA aJ)] w (QU U k M z A aJ w (Zl X bo o cG c g)):=by
 have b{G}(h:G:=by
 have b{G}(h:G:=by
 have b{G}(h:G:=by
 have b{G}(h:G:=by
 have d8:=Y E;have b{G}(h:G:=by
 obtain⟨al,dD⟩:=xH I.p;obtain⟨bY,dC⟩:=xH (Zl X bo ⟨F,B,C⟩ cG c g);rw[<-dC.out,<-dD.out];have eM:=Y hP;have eP:=Y dU;have d7:=Y dE;have eN:=Y af;have cH:=ba.fQ aI;clear E a7 b8 bb cg hP dU dE af b5;go_enter func112,ntmps112;go_wp2_with fail;refine iJ ?_;clear bx bq
 go_loopg [] cG (λi wr=>∃(bN:Option Va)(b7:St),Ms U k M z wr b7/\P i b7 bN/\Qj aJ k w2 wr/\P9 wr aJ bN/\bY=Zl X bo ⟨F,B,C⟩ i bN b7)
 case atStart=>exact⟨c,g,br,eM.out,Qj.of RV (Qe bP),cH,dC.out⟩
 case round=>
  obtain⟨bN,b7,ak,dq,ap,eD,dO⟩:=hrel;obtain⟨i,rfl⟩:∃i,gk=i+1:=by
   cases gk with
   |zero=>exact absurd dq (Pj eP _ _)
   |succ i=>exact⟨i,rfl⟩
  obtain⟨ae,dJ⟩:=Pj d7 i b7 bN dq;have ef:=ak;have ce:=Y dO;have dj:=ak.lt;have d6:=ap.tU cH;have dz:=Y (ap.TY cH bG.out PK PK);have cT:=Y (ap.TY cH d8.out PK PK);have d1:=Y (fV cT.out);have e9:=fR cT.out;have eH:=bF.up.trans ap;have cK:=aX.kp d6;have ei:=ap;have dG:=Pj eN;obtain⟨dP,dQ,bJ,fa,cy,cB,dh,ee,ey⟩:=cK.pR dG;obtain⟨fg,dH⟩:=xE dP.p;obtain⟨fl,dS⟩:=xH dQ.p
  have ax:=Y (λt (f:PG wr t)=>ae t dP n (ef.fQ f) (ee.kp (Kp.of f)));have di:=cK.gG;have dM:=cK.sI cy;have d5:=cK.cells.1;rw[<-dD.out] at cy di d5;rw[<-dH] at cB ax;rw[<-dS.out] at dh
  rcases cZ:X.v (Px bo 0) ⟨F,B,C⟩ b7 with ⟨⟨e,u⟩,bI⟩
  rw[cZ] at ax;have bW:=Y cZ;have eS:=Y dJ;have cj:=Y cy;have eI:=Y cB;have eL:=Y dh;have ep:=Y di;have eO:=Y dM;have fe:=f1 cB;clear dq dO dJ dG dH di dM cy cB dh cZ;go_wp2_with fail;refine WY (H:=λwz D p=>VB U k M z A wr e u bI wz D p) (G:=?GG) (λaT=>?ways) ?rest
  case ways=>
   refine UG 8 λa=>?_;refine rN ?_;refine uk 6 eI.out a ?_;refine kx 7 d1.out a ?_;refine jZ 8 12 (λK d=>?_) λK d=>?_
   ·go_simp;refine mp ?_;have b{G}(h:G:=by
    refine o3 ?_;refine VH 12 ?_;refine nR ?_;have ae:=VB.late (v:=e) aK ak ((Qj.of a (Qe dj)).trans ap);exact qQ):=Pq h;exact kW
   ·go_simp;refine kS ?_;clear d K;refine QX 8 λK d=>?_;go_simp;refine oi ?_;have b{G}(h:G:=by
    have b{G}(h:G:=by
    have ae:=VB.early (v:=e) cn Qq (Qe dj) aK ak ((Qj.of (QK.drew) (Qe dj)).trans ap);exact Dd):=Pq h;exact A1):=Pq h;exact kW
  case rest=>
   rintro wz D p a6;have cE:=Y (a6.fr.f2 dz.out PK);have ec:=Y (a6.fr.f2 cT.out PK);have dd:=eH.trans a6.fr.up;have d4:=ei.trans a6.fr.up;have dg:=eD.f2 a6.fr;have eU:=a6.er;have dp:=a6.ms;have de:=a6.ms.lt;have fd:D≠N:=λj=>by
    have ah:=a6.vb;have aL:=fR dz.out;omega
   obtain⟨dc,cX,cY,df,c8,da,db,dm,du⟩:=SA cE.out;obtain⟨ed,d9,ea,el,en,eo,ek⟩:=Ql (a6.v)
   by_cases s:u=.no
   ·subst s;have bA:p=RI:=a6.er;subst bA;have cC:=Yr e wz;have eT:=Y (a6.fr.Ve.UY cj.out ep.out (fU rfl));have dZ:=Y (a6.fr.Ve.UY eL.out eO.out (f4 rfl));have d0:=ey.kp a6.fr.Ve
    cases bX:e.jv with
    |true=>
     rw[bX] at cC;obtain⟨eF,dN⟩:=Pj eS e bI bW.out bX;have eJ:=Y dN;have cL:=Y bX;clear bX dN;go_wp2_with fail;refine cm cC ?_;rintro j bL ⟨rfl,bn⟩;have cJ:=dp.fQ bn;have cq:=dg.fQ bn;have cp:=Y (fZ bn cE.out);have dT:=Y (fV (fZ bn ec.out));have dr:=dd.trans (Qj.of (L:=aJ) bn (Qe de));have d2:=d4.trans (Qj.of (L:=aJ) bn (Qe de));have dv:=Y (PV bn eT.out);have dx:=Y (PV bn dZ.out);have dt:=cJ.lt;have fk:=dT.out.2.2.2.2.2
     have fi:=f1 dv.out;have fh:=f1 dx.out;have bm:=Y (λt (f:PG bL t)=>eF t dQ (cJ.fQ f) ((d0.kp (Kp.of bn)).kp (Kp.of f)) (cq.fQ f));rw[<-bQ.out,<-dS.out] at bm
     rcases cU:X.s (Px bo 1) ⟨F,B,C⟩ bN bI with ⟨⟨q,bR,bH⟩,bE⟩
     rw[cU] at bm;have cr:=Y cU;clear cU dc cX cY df c8 da db dm du ed d9 ea el en eo ek;go_wp2_with fail;refine WY (H:=λwz D p=>SB U k M z A aJ bL q bR bH bE wz D p) (G:=?GGT) (λaT=>?aDY) ?aKT
     case aDY=>
      refine UG 8 λa=>?_;refine kT ?_;refine uk 4 dv.out a ?_;refine up 5 bJ 1 a ?_;refine uk 6 dx.out a ?_;refine kx 7 dT.out a ?_;refine jZ 8 12 (λK d=>?_) λK d=>?_
      ·go_simp;refine pS ?_;have b{G}(h:G:=by
       refine r1 ?_;refine VH 12 ?_;refine nR ?_;have ae:=SB.late (o:=q) aK ak ((Qj.of a (Qe dt)).trans ap) ci;exact rb):=Pq h;exact m5
      ·go_simp;refine kS ?_;clear d K;refine QX 8 λK d=>?_;go_simp;refine cm (Pj bm _ (QK.drew)) ?_;have b{G}(h:G:=by
       have cn:aR.heap[bL.heap.size]?=some (Qb #[PD false,Ph 0,Ph 0,QB] 67):=ap.TY (cq.fQ (QK.drew)) (Pz _ _) PK PK;obtain⟨eZ,eV,e0,fm,eW,eX,eY,fj,e1⟩:=SA (cn);refine r1 ?_;refine nR ?_;have ae:=SB.early (o:=q) cn Qq (Qe dt) aK ak ((Qj.of (QK.drew) (Qe dt)).trans ap) ci
       generalize (((aR.setCell (Pn bL.heap.size 0) (PD q.ret)).setCell (Pn bL.heap.size 1) (Ph q.v.k)).setCell (Pn bL.heap.size 2) (Ph q.v.n)).setCell (Pn bL.heap.size 3) (PI q.v.s)=wz at ae ⊢
       generalize bL.heap.size=D at ae ⊢
       exact aT wz D p ae):=Pq h;exact m5
     rintro wt eK dR bv;have cw:=Y (bv.fr.TY cq cp.out PK PK);have cR:=dr.trans bv.fr;have d3:=d2.trans bv.fr;have cx:=bv.ms;have dX:=bv.er;have cQ:=bv.la;have e8:=bv.ms.lt;have e7:eK≠N:=λj=>by
      have ah:=bv.ob;have aL:=fR cp.out;omega
     obtain⟨eG,⟨aH,ay,aE⟩⟩:=q;obtain⟨dc,cX,cY,df,c8,da,db,dm,du⟩:=SA cw.out;obtain⟨eu,eg,ew,eQ,ej,dY,eE,eR,eh⟩:=SA (bv.o)
     cases eG with
     |true=>
      by_cases aO:bR=.no
      ·subst aO;have bA:dR=RI:=bv.er;subst bA;have L:bY=((⟨true,⟨aH,ay,aE⟩⟩,.no,bH),bE):=by rw[ce.out,Zl,bW.out];simp only[cL.out,hq];rw[cr.out];rfl
       have bD:=Y L;clear L;have b{G}(h:G:=by
       refine XE (v:=.tuple #[XD ⟨true,⟨aH,ay,aE⟩⟩,RI]) ?_;exact py):=Pq h;exact tY
      ·obtain⟨bS,bU,bA⟩:=bv.er.X8 aO au;subst bA;have L:bY=((⟨true,⟨aH,ay,aE⟩⟩,bR,bH),bE):=by
        rw[ce.out,Zl,bW.out];simp only[cL.out,hq];rw[cr.out];exact xr
       have bD:=Y L;clear L aO;have b{G}(h:G:=by
       refine ui ?_;exact py):=Pq h;exact tY
     |false=>
      by_cases aO:bR=.no
      ·subst aO;have bA:dR=RI:=bv.er;subst bA;have L:bY=Zl X bo ⟨F,B,C⟩ i bH bE:=by rw[ce.out,Zl,bW.out];simp only[cL.out,hq];rw[cr.out];rfl
       have bD:=Y L;clear L;go_wp2
       go_roundg i
       case measure=>omega
       case rel=>exact⟨bH,bE,cx,Pj eJ _ bH bE cr.out,d3,cQ,bD.out⟩
      ·obtain⟨bS,bU,bA⟩:=bv.er.X8 aO au;subst bA;have L:bY=((⟨false,⟨aH,ay,aE⟩⟩,bR,bH),bE):=by
        rw[ce.out,Zl,bW.out];simp only[cL.out,hq];rw[cr.out];exact xr
       have b{G}(h:G:=by
       refine ya ?_;exact py):=Pq h;exact Kc
    |false=>
     rw[bX] at cC;have L:bY=((SG,.no,bN),bI):=by rw[ce.out,Zl,bW.out];simp[bX]
     have bD:=Y L;clear bX L;go_wp2_with fail;refine cm cC ?_;rintro j bL ⟨rfl,bn⟩;have cJ:=dp.fQ bn;have cq:=dg.fQ bn;have cp:=Y (fZ bn cE.out);have dr:=dd.trans (Qj.of (L:=aJ) bn (Qe de));obtain⟨eu,eg,ew,eQ,ej,dY,eE,eR,eh⟩:=SA cp.out;clear dc cX cY df c8 da db dm du;go_wp2_with fail;obtain⟨aY,a1,bK,b2,b1,bf,bh,be,bi⟩:=kb cp.out a8.out aW dr cJ (PD false) (Ph 0) (Ph 0) (QB);refine r0 ?_;rw[bD.out];exact⟨⟨_,rfl,rfl⟩,b1,b2,cq.UJ bK⟩
   ·obtain⟨bS,bU,bA⟩:=a6.er.X8 s au;subst bA;have L:bY=((SG,u,bN),bI):=by
     rw[ce.out,Zl,bW.out];exact kc
    have bD:=Y L;clear L s;go_wp2_with fail;obtain⟨aY,a1,bK,b2,b1,bf,bh,be,bi⟩:=kb cE.out a8.out aW dd dp (PD false) (Ph 0) (Ph 0) (QB);rw[<-a1];refine pO (v:=.tuple #[XD SG,.iface bS bU]) ?_;rw[bD.out];exact⟨⟨_,rfl,eU.RP bK PK⟩,b1,b2,dg.UJ bK⟩):=Pq h;exact VQ):=Pq h;exact j9):=Pq h;exact YL):=Pq h;exact jA):=Pq h;exact j2
def ayw (au:ip A)(ak:Ms U k M z w g){I:Ad}{ae:Nd}(aQ:Qc z w I ae)(af:ae.2.fS.length=2)(o:Pl){c:Option Va}(ba:P9 w aJ c)(ah:UH U k M z A g (Px ae 0) o (X.v (Px ae 0) o g))(aL:∀aM ay,UW X (Px ae 0) o g=((aM,.no),ay)->YK U k M z A (ay.gv o.scope aM (-2)) (Px ae 1) { o with scope:=ay.gu } aJ c (X.s (Px ae 1) { o with scope:=ay.gu } c (ay.gv o.scope aM (-2)))/\Sz cS ay/\(ay.M.ro o.scope).isSome=true)(dT:cS<1000000000) :
  PN 113 #[Pm k,Pm I.p,QN o (LA aJ)] w (QU U k M z A aJ w (oI X ae o c g)):=by
 have b{G}(h:G:=by
 have b{G}(h:G:=by
 have b{G}(h:G:=by
 have b{G}(h:G:=by
 have dz:=Y E;have bE:=Y (fV E);have b{G}(h:G:=by
 obtain⟨d0,de,cC,ed,bK,bN,cy,dR,dY⟩:=aX.pR af;obtain⟨al,cT⟩:=xH I.p;obtain⟨eh,cX⟩:=xE d0.p;obtain⟨ek,dh⟩:=xH de.p;have ax:=Y (λt (f:PG w2 t)=>xa au (br.fQ f) (dR.kp (Kp.of f)) ⟨F,B,C⟩ n ah);obtain⟨aE,ce⟩:=xH (oI X ae ⟨F,B,C⟩ c g);rw[<-ce.out,<-cT.out];have cG:=aX.gG;have db:=aX.sI bK;rw[<-cT.out] at bK b5 cG;rw[<-cX] at bN ax;rw[<-dh.out] at cy
 rcases T:UW X (Px ae 0) ⟨F,B,C⟩ g with ⟨⟨q,u⟩,ay⟩
 rw[T] at ax;have cE:=Y bK;have cU:=Y bN;have d3:=Y cy;have dd:=Y cG;have dj:=Y db;have ee:=f1 bN;have b7:=Y T;have dU:=Y aL;have dP:=ba.fQ aI;have di:=Y b8;have bL:=Y cg;clear E a7 T ah b8 bb cg bK bN cy cX aL cG db;go_enter func113,ntmps113;have b{G}(h:G:=by
 have cZ:=Y (D.f2 dz.out PK);have cY:=bF.trans D;have da:=dP.f2 D;have d7:=Y (D.Ve.UY cE.out dd.out (fU rfl));have dr:=Y (D.Ve.UY d3.out dj.out (f4 rfl));have dm:Hid (∃m,wz.heap[al]?=some (Qb m 40)):=by obtain⟨m,bo⟩:=Pj dd;exact⟨m,D.Ve _ _ _ bo (fU rfl)⟩
 have dp:Hid (∃m,wz.heap[cC]?=some (Qb m 22)):=by obtain⟨m,bo⟩:=Pj dj;exact⟨m,D.Ve _ _ _ bo (f4 rfl)⟩
 have dt:=dY.kp D.Ve;have ef:=L.lt;obtain⟨dJ,dx,dC,dO,dF,dG,dH,dZ,d6⟩:=SA aO.out
 by_cases s:u=.no
 ·subst s;have cj:p=RI:=aK;subst cj;obtain⟨dX,dv,dg⟩:=Pj dU q ay b7.out;obtain⟨bv,bW⟩:=xE (ay.gu:Int);obtain⟨b2,bS⟩:=xE (ay.gv F q (-2));have dE:PN 50 #[Pm k,Ph F,Ph q,Ph (-2)] wz λj w'=>j=PY (Ph bv)/\Ms U k M z w' b2/\Qj none k wz w':=by
   obtain⟨_,_,_,_,aR⟩:=id L;refine(pq aR dv dT F q (-2) dg).mono ?_;rintro j w' ⟨rfl,ci,bR,bA⟩;rw[bW,bS];exact⟨rfl,⟨_,_,_,_,bR⟩,bA.jy aR⟩
  have bI:aE=X.s (Px ae 1) ⟨bv,B,C⟩ c b2:=by rw[ce.out];unfold oI;rw[b7.out,bW,bS]
  have dM:YK U k M z A b2 (Px ae 1) ⟨bv,B,C⟩ aJ c aE:=by
   show YK _ _ _ _ _ _ _ _ _ _ _
   rw[bI,bW,bS];exact dX
  obtain⟨b1,cJ,cp,cn,_,cr⟩:=fV cZ.out;clear dg bW bS bI dJ dx dC dO dF dG dH dZ d6;go_simp;go_wp2_with fail;refine cm dE ?_;rintro j bJ ⟨rfl,dN,a6⟩;have cw:=Y (a6.f2 cZ.out PK);have bn:=Y (a6.f2 aO.out PK);have d4:=da.f2 a6;have dD:=cY.trans a6;have d5:=Y (a6.Ve.UY d7.out dm.out (fU rfl));have d8:=Y (a6.Ve.UY dr.out dp.out (f4 rfl));have d9:Hid (∃m,bJ.heap[al]?=some (Qb m 40)):=by obtain⟨m,bo⟩:=Pj dm;exact⟨m,a6.Ve _ _ _ bo (fU rfl)⟩
  have ea:Hid (∃m,bJ.heap[cC]?=some (Qb m 22)):=by obtain⟨m,bo⟩:=Pj dp;exact⟨m,a6.Ve _ _ _ bo (f4 rfl)⟩
  have du:=dt.kp a6.Ve;clear b1 cJ cp cn cr;obtain⟨b1,cJ,cp,cn,dc,cr⟩:=fV cw.out;have d2:=dc 0;clear dc;go_wp2_with fail;have d1:k<=H:=by have:=Pj di;omega
  have bU:=WH (a:=0) cw.out d1 (Ph bv);obtain⟨cR,aT⟩:=xE (bJ.setCell (Pn H 0) (Ph bv));have cB:Kp bJ (bJ.setCell (Pn H 0) (Ph bv)):=λO m j ad s=>bU.rest O m j ad (by rcases s with rfl|rfl <;> decide);have cH:=dN.ZR bU PK;have cL:=Y (fV (ZI cw.out (Ph bv)));have dS:Hid (cR.heap[N]?=some (Qb #[PD false,Ph 0,Ph 0,QB] 67)):=tg
  have c8:=dD.ia bU (tN di.out _);have cK:=d4.UJ bU;have bX:=Y (cB.UY d5.out d9.out (fU rfl));have bY:=Y (cB.UY d8.out ea.out (f4 rfl));have cQ:=du.kp cB;rw[<-aT] at cH cL c8 cK bX bY cQ ⊢;have bm:=Y (λt (f:PG cR t)=>dM t de (cH.fQ f) (cQ.kp (Kp.of f)) (cK.fQ f));rw[<-bQ.out,<-dh.out] at bm;have dQ:=cH.lt;have eg:=cL.out.2.2.2.2.2;have ej:=f1 bX.out;have ei:=f1 bY.out;clear aT b1 cJ cp cn cr d2;refine UG 8 λa=>?_
  refine kT ?_;refine uk 4 bX.out a ?_;refine up 5 cC 1 a ?_;refine uk 6 bY.out a ?_;refine kx 7 cL.out a ?_;refine QX 8 λK d=>?_;go_simp;refine pS ?_;have b{G}(h:G:=by
  have df:=(Qj.of (L:=aJ) a (Qe dQ)).trans ap;have bR:=Y (df.TY cK dS.out PK PK);have cx:=c8.up.trans df;exact ux):=Pq h;exact m5
 ·obtain⟨aT,a6,cj⟩:=aK.X8 s au;subst cj;have bI:aE=((SG,u,c),ay):=by
   rw[ce.out];unfold oI;rw[b7.out];exact kc
  have aR:=Y bI;clear s bI;go_simp;go_wp2_with fail;obtain⟨aY,a1,aH,bH,bD,bf,bh,be,bi⟩:=kb aO.out a8.out aW cY L (PD false) (Ph 0) (Ph 0) (QB);rw[<-a1];refine pO (v:=.tuple #[XD SG,.iface aT a6]) ?_;rw[aR.out];exact⟨⟨_,rfl,dq.RP aH PK⟩,bD,bH.up,da.UJ aH⟩):=Pq h;exact wy):=Pq h;exact VQ):=Pq h;exact j9):=Pq h;exact YL):=Pq h;exact jA):=Pq h;exact j2
variable {a:Nd}{b:Pl}{d:Option Va}{e:Nat}
def vK (c:¬ g.steps<20000):ZQ X a b g=((vU,.stop),g.step):=fY (show 20000<g.steps+1 by omega)
def xq (c:¬ g.steps<20000):jB X e a b d g=((SG,.stop,d),g.step):=fY (show 20000<g.steps+1 by omega)
section
variable (E:g.steps<20000)
include E
def yn (c:a.2.kd=17):ZQ X a b g=((Yo a.2.n,.no),g.step):=by
 obtain⟨no,f,l,j,i⟩:=a;change f=17 at c;exact WQ
def wG (c:a.2.kd=18):ZQ X a b g=((Xx a.2.tx,.no),g.step):=by
 obtain⟨no,f,l,j,i⟩:=a;change f=18 at c;exact WQ
def xk (c:a.2.kd=19):ZQ X a b g=((Ri true,.no),g.step):=by
 obtain⟨no,f,l,j,i⟩:=a;change f=19 at c;exact WQ
def vk (c:a.2.kd=20):ZQ X a b g=((Ri false,.no),g.step):=by
 obtain⟨no,f,l,j,i⟩:=a;change f=20 at c;exact WQ
def zk (c:a.2.kd=21):ZQ X a b g=((qX,.no),g.step):=by
 obtain⟨no,f,l,j,i⟩:=a;change f=21 at c;exact WQ
def wK (c:a.2.kd=23):ZQ X a b g=p6 a b g.step:=by
 obtain⟨no,f,l,j,i⟩:=a;change f=23 at c;exact WQ
def yS (c:a.2.kd=24):ZQ X a b g=oG X a b g.step:=by
 obtain⟨no,f,l,j,i⟩:=a;change f=24 at c;exact WQ
def yT (c:a.2.kd=25):ZQ X a b g=mf X a b g.step:=by
 obtain⟨no,f,l,j,i⟩:=a;change f=25 at c;exact WQ
def we (c:a.2.kd=26):ZQ X a b g=mf X a b g.step:=by
 obtain⟨no,f,l,j,i⟩:=a;change f=26 at c;exact WQ
def zH (c:a.2.kd=27):ZQ X a b g=kZ X a b g.step:=by
 obtain⟨no,f,l,j,i⟩:=a;change f=27 at c;exact WQ
def Hr (c:a.2.kd=28):ZQ X a b g=kZ X a b g.step:=by
 obtain⟨no,f,l,j,i⟩:=a;change f=28 at c;exact WQ
def JO (c:a.2.kd=29):ZQ X a b g=kZ X a b g.step:=by
 obtain⟨no,f,l,j,i⟩:=a;change f=29 at c;exact WQ
def Jd (c:a.2.kd=30):ZQ X a b g=kZ X a b g.step:=by
 obtain⟨no,f,l,j,i⟩:=a;change f=30 at c;exact WQ
def I7 (c:a.2.kd=31):ZQ X a b g=kZ X a b g.step:=by
 obtain⟨no,f,l,j,i⟩:=a;change f=31 at c;exact WQ
def zd (c:a.2.kd=32):ZQ X a b g=o9 X a b g.step:=by
 obtain⟨no,f,l,j,i⟩:=a;change f=32 at c;exact WQ
def vi (c:a.2.kd=33):ZQ X a b g=nh X a b g.step:=by
 obtain⟨no,f,l,j,i⟩:=a;change f=33 at c;exact WQ
def yB (c:a.2.kd=34):ZQ X a b g=mc X a b g.step:=by
 obtain⟨no,f,l,j,i⟩:=a;change f=34 at c;exact WQ
def uW (c:a.2.kd=35):ZQ X a b g=Zk X a b g.step:=by
 obtain⟨no,f,l,j,i⟩:=a;change f=35 at c;exact WQ
def uy (c:a.2.kd=36):ZQ X a b g=pb X a b g.step:=by
 obtain⟨no,f,l,j,i⟩:=a;change f=36 at c;exact WQ
def uE (c:a.2.kd=37):ZQ X a b g=(((Xz a b g.step).1,.no),(Xz a b g.step).2):=by
 obtain⟨no,f,l,j,i⟩:=a;change f=37 at c;exact WQ
def yE (c:a.2.kd=38):ZQ X a b g=k3 X b g.step.M.objs.length (QA a) { g.step with M:=g.step.M.Qo 0 }:=by
 obtain⟨no,f,l,j,i⟩:=a;change f=38 at c;exact WQ
def vB (f:a.2.kd=2):jB X e a b d g=if a.2.fS.length=0 then ((SG,.no,d),g.step) else ((SG,(oQ X a b g.step).1,d),(oQ X a b g.step).2):=by
 obtain⟨no,m,o,n,j⟩:=a;change m=2 at f;subst f;refine nJ ?_
 by_cases c:j.length=0
 ·exact(fY c).trans (fY c).symm
 ·refine((fT c).trans ?_).trans (fT c).symm;unfold oQ
  show (match X.v _ b g.step with |((p,.no),l)=>_ |((_,i),l)=>_)=_
  rcases X.v (Px (no,.mk 2 o n j) 0) b g.step with ⟨⟨p,i⟩,l⟩
  cases i <;> rfl
def ul (c:a.2.kd=3):jB X e a b d g=((SG,(lD a b (U5 X (QA a) b g.step)).1,d),(lD a b (U5 X (QA a) b g.step)).2):=by
 obtain⟨no,j,n,m,l⟩:=a;change j=3 at c;subst c;refine nJ ?_
 show (match U5 X _ b g.step with |((o,.no),i)=>_ |((_,f),i)=>_)=_
 rcases U5 X (QA (no,.mk 3 n m l)) b g.step with ⟨⟨o,f⟩,i⟩
 cases f <;> rfl
def x7 (c:a.2.kd=4):jB X e a b d g=((SG,(lD a b (U5 X (QA a) b g.step)).1,d),(lD a b (U5 X (QA a) b g.step)).2):=by
 obtain⟨no,j,n,m,l⟩:=a;change j=4 at c;subst c;refine nJ ?_
 show (match U5 X _ b g.step with |((o,.no),i)=>_ |((_,f),i)=>_)=_
 rcases U5 X (QA (no,.mk 4 n m l)) b g.step with ⟨⟨o,f⟩,i⟩
 cases f <;> rfl
def uX (c:a.2.kd=6):jB X e a b d g=Ti X (QD a b g.step).1 (QA a) d (QD a b g.step).2:=by
 obtain⟨no,f,l,j,i⟩:=a;change f=6 at c;exact WQ
def wD (c:a.2.kd=7):jB X e a b d g=na X a b d g.step:=by
 obtain⟨no,f,l,j,i⟩:=a;change f=7 at c;exact WQ
def us (c:a.2.kd=8):jB X e a b d g=Zl X a b e d g.step:=by
 obtain⟨no,f,l,j,i⟩:=a;change f=8 at c;exact WQ
def uJ (c:a.2.kd=9):jB X e a b d g=oI X a b d g.step:=by
 obtain⟨no,f,l,j,i⟩:=a;change f=9 at c;exact WQ
def uC (c:a.2.kd=10):jB X e a b d g=((⟨sw (U5 X (QA a) b g.step).1.2,(U5 X (QA a) b g.step).1.1⟩,(U5 X (QA a) b g.step).1.2,d),(U5 X (QA a) b g.step).2):=by
 obtain⟨no,l,o,n,m⟩:=a;change l=10 at c;subst c;refine nJ ?_
 show (match U5 X _ b g.step with |((i,.no),j)=>_ |((i,f),j)=>_)=_
 rcases U5 X (QA (no,.mk 10 o n m)) b g.step with ⟨⟨i,f⟩,j⟩
 cases f <;> rfl
def vY (c:a.2.kd=11):jB X e a b d g=((SG,(pP (X.v (Px a 0) b g.step)).1,d),(pP (X.v (Px a 0) b g.step)).2):=by
 obtain⟨no,j,n,m,l⟩:=a;change j=11 at c;subst c;refine nJ ?_
 show (match X.v _ b g.step with |((o,.no),i)=>_ |((_,f),i)=>_)=_
 rcases X.v (Px (no,.mk 11 n m l) 0) b g.step with ⟨⟨o,f⟩,i⟩
 cases f <;> rfl
def wZ (c:a.2.kd=12):jB X e a b d g=kX X b (QA a).tail (X.s (Px a 0) b d g.step).1.1 (X.s (Px a 0) b d g.step).1.2.1 (X.s (Px a 0) b d g.step).1.2.2 (X.s (Px a 0) b d g.step).2:=by
 obtain⟨no,f,l,j,i⟩:=a;change f=12 at c;exact WQ
def yJ (c:a.2.kd=15):jB X e a b d g=((SG,(nK d (X.v (Px a 0) b g.step)).1.1,(nK d (X.v (Px a 0) b g.step)).1.2),(nK d (X.v (Px a 0) b g.step)).2):=by
 obtain⟨no,j,n,m,l⟩:=a;change j=15 at c;subst c;refine nJ ?_
 show (match X.v _ b g.step with |((o,.no),i)=>_ |((_,f),i)=>_)=_
 rcases X.v (Px (no,.mk 15 n m l) 0) b g.step with ⟨⟨o,f⟩,i⟩
 cases f <;> rfl
def rm (f:a.2.kd≠17/\a.2.kd≠18/\a.2.kd≠19/\a.2.kd≠20/\a.2.kd≠21/\a.2.kd≠23/\a.2.kd≠24/\a.2.kd≠25/\a.2.kd≠26/\a.2.kd≠27/\a.2.kd≠28/\a.2.kd≠29/\a.2.kd≠30/\a.2.kd≠31/\a.2.kd≠32/\a.2.kd≠33/\a.2.kd≠34/\a.2.kd≠35/\a.2.kd≠36/\a.2.kd≠37/\a.2.kd≠38):ZQ X a b g=((vU,.no),g.step):=by
 obtain⟨l,B,m,v,n,r,o,p,q,L,P,N,I,O,D,s,i,C,u,c,j⟩:=f;refine nJ ?_;refine(fT l).trans ?_;refine(fT B).trans ?_;refine(fT (λh=>h.elim m v)).trans ?_;refine(fT n).trans ?_;refine(fT r).trans ?_;refine(fT o).trans ?_;refine(fT (λh=>h.elim p q)).trans ?_;refine(fT (λh=>by omega)).trans ?_;refine(fT D).trans ?_;refine(fT s).trans ?_;refine(fT i).trans ?_;refine(fT C).trans ?_;refine(fT u).trans ?_
 refine(fT c).trans ?_;refine(fT j).trans ?_;rfl
def pE (c:a.2.kd≠2/\a.2.kd≠3/\a.2.kd≠4/\a.2.kd≠6/\a.2.kd≠7/\a.2.kd≠8/\a.2.kd≠9/\a.2.kd≠10/\a.2.kd≠11/\a.2.kd≠12/\a.2.kd≠15):jB X e a b d g=((SG,.no,d),g.step):=by
 obtain⟨f,j,i,l,o,n,m,r,s,p,q⟩:=c;refine nJ ?_;refine(fT f).trans ?_;refine(fT (λh=>h.elim j i)).trans ?_;refine(fT l).trans ?_;refine(fT o).trans ?_;refine(fT n).trans ?_;refine(fT m).trans ?_;refine(fT r).trans ?_;refine(fT s).trans ?_;refine(fT p).trans ?_;refine(fT q).trans ?_;rfl
end
end
section
variable {a:Nd}(h:Nk 0 a.2)
include a h
def Nk.XG (c:24<=a.2.kd/\a.2.kd<=36):Nk 0 (Px a 0).2/\1<=a.2.fS.length:=by
 obtain⟨no,f⟩:=a;have d:=h.sh;simp only at d c h
 cases d with
 |pN _ b=>exact⟨h.iK gt b,Qq⟩
 |call b _ _=>exact⟨h.iK gt b,by show 1<=(_::_).length;simp⟩
 |one _ b=>exact⟨h.iK gt b,Qq⟩
 |two _ b _=>exact⟨h.iK gt b,by show 1<=2;omega⟩
 |iH _ b _=>exact⟨h.iK gt b,by show 1<=2;omega⟩
 |lit e=>simp only[Tr.kd] at c;omega
 |_=>simp only[Tr.kd] at c;omega
def Nk.nX (b:24<=a.2.kd/\a.2.kd<=31):Nk 0 (Px a 1).2/\a.2.fS.length=2:=by
 obtain⟨no,f⟩:=a;have d:=h.sh;simp only at d b h
 cases d with
 |two _ _ c=>exact⟨h.iK (gO _ gt) c,rfl⟩
 |iH _ _ c=>exact⟨h.iK (gO _ gt) c,rfl⟩
 |lit e=>simp only[Tr.kd] at b;omega
 |one e=>simp only[Tr.kd] at b;omega
 |_=>simp only[Tr.kd] at b;omega
def Nk.l1 (b:32<=a.2.kd/\a.2.kd<=36/\a.2.kd≠35):a.2.fS.length=1:=by
 obtain⟨no,f⟩:=a;have c:=h.sh;simp only at c b h
 cases c with
 |pN _ d=>rfl
 |one _ d=>rfl
 |lit e=>simp only[Tr.kd] at b;omega
 |two e=>simp only[Tr.kd] at b;omega
 |_=>simp only[Tr.kd] at b;omega
def Nk.lB (b:a.2.kd=37):Fg a.2:=by
 refine⟨h.ct,h.nb,?_⟩;obtain⟨no,g⟩:=a;have c:=h.sh;simp only at c b h
 cases c with
 |lB _ f e=>exact⟨_,_,_,_,_,rfl,f,e⟩
 |lit d=>simp only[Tr.kd] at b;omega
 |one d=>simp only[Tr.kd] at b;omega
 |two d=>simp only[Tr.kd] at b;omega
 |_=>cases b
def Nk.obj (b:a.2.kd=38):(∀e ∈ QA a,Nk 0 (Px e 0).2/\e.2.fS.length=1)/\a.2.fS.length<=8:=by
 obtain⟨no,l⟩:=a;have d:=h.sh;simp only at d b h
 cases d with
 |obj d j=>
  refine⟨λe b=>?_,j⟩;have g:=QW b;have c:=d _ g;have f:=h.iK g c;obtain⟨k,m⟩:=e;simp only at c f
  cases c with
  |gQ _ i=>exact⟨f.iK gt i,rfl⟩
 |lit c=>simp only[Tr.kd] at b;omega
 |one c=>simp only[Tr.kd] at b;omega
 |two c=>simp only[Tr.kd] at b;omega
 |_=>cases b
end
def Nk.num {c:Tr}(h:Nk 0 c)(a:c.kd=17):Nb c.n:=by
 have d:=h.sh
 cases d with
 |num b=>exact b
 |lit b=>simp only[Tr.kd] at a;omega
 |one b=>simp only[Tr.kd] at a;omega
 |two b=>simp only[Tr.kd] at a;omega
 |_=>cases a
def Nk.str {c:Tr}(h:Nk 0 c)(a:c.kd=18):Sm c.tx:=by
 have d:=h.sh
 cases d with
 |str b=>exact b
 |lit b=>simp only[Tr.kd] at a;omega
 |one b=>simp only[Tr.kd] at a;omega
 |two b=>simp only[Tr.kd] at a;omega
 |_=>cases a
section
variable {j ax:Int}{σ i al:St}{v:Va}{c:Er}{n:Nat}{b:Pl}{g:Fx}{a:Nd}{aD ay:Option Va}{aM:Oc}
def Ex.step (σ:St):Ex σ σ.step:=⟨Qq,Qq,rfl,gw _,λ_ _ x=>x,hO⟩
def Iv.step (h:Iv j σ):Iv (j - 10000) σ.step:=by
 obtain⟨e,d,f⟩:=h.pz;exact⟨⟨e,⟨d.go,d.ow,d.fn,d.lg,d.se,d.oe⟩,by show (e:Int)<=j - 10000+10000 * ((σ.steps+1:Nat):Int);push_cast;omega⟩,h.gm,h.fn,h.ca,h.lr,h.lo⟩
def Q.step (h:Q (n+1) j b σ)(d:¬ 20000<σ.step.steps):Q n (j - 10000) b σ.step:=⟨by have:=h.fu;show 20001<σ.steps+1+n;omega,by omega,h.iv.step,h.po⟩
section
variable (o:FI g n)(h:Q n j b σ)(p:Nk 0 a.2)
include o h p
def Lp (B:a.2.kd=24):VO (j+10) σ (oG g a b σ):=by
 have t:=(p.XG Pv).1;have r:=(p.nX Pv).1;unfold oG;simp only
 split
 ·rename_i C
  have d:=(o.v h (t.XG Pv).1).1
  rcases T:g.v (Px (Px a 0) 0) b σ with ⟨⟨A,c⟩,i⟩
  rw[T] at d
  cases c with
  |no=>
   simp only;have e:=(o.v (h.next d) r).1
   rcases u:g.v (Px a 1) b i with ⟨⟨v,c⟩,al⟩
   rw[u] at e;have s:=(d.va).up e.ex.ob;have k:=d.ex.trans e.ex
   cases c with
   |no=>
    simp only
    split
    ·exact⟨e.iv.up Pv,k,⟨e.er,lZ ov⟩,WJ _⟩
    ·rename_i q
     have z:=s.r (by simpa using q);have f:=e.iv.put e.va A.n (Px a 0).2.tx false;refine⟨f.iv.up Pv,k.trans f.ex,?_,e.va.up f.ex.ob⟩;rw[zR z];exact e.er
   |_=>exact⟨e.iv.up Pv,k,e.er,WJ _⟩
  |_=>exact⟨d.iv.up Pv,d.ex,d.er,WJ _⟩
 ·have e:=h.iv.look (Px a 0) b;have d:=(o.v (h.nx e) r).1
  rcases T:g.v (Px a 1) b (look (Px a 0) b σ).2 with ⟨⟨v,c⟩,i⟩
  rw[T] at d;have k:=e.ex.trans d.ex
  cases c with
  |no=>
   simp only;obtain⟨q,f,s⟩:=Cm d.iv d.er d.va (look (Px a 0) b σ).1 (Px a 0).2.tx b.f3;exact⟨q.up Pv,k.trans f,s,d.va.up f.ob⟩
  |_=>exact⟨d.iv.up Pv,k,d.er,WJ _⟩
def aAj (r:a.2.kd=34):VO (j+10) σ (mc g a b σ):=by
 have q:=(p.XG Pv).1;unfold mc;simp only
 split
 ·have d:=h.iv.drop (σ.M.find b.scope (Px a 0).2.tx) (Px a 0).2.tx;exact .ret (d.up Pv) h.st (nO _ _)
 ·split
  ·obtain⟨k,e,f,s⟩:=p3 o h (d:=Px (Px a 0) 0) (q.XG Pv).1
   rcases T:UW g (Px (Px a 0) 0) b σ with ⟨⟨aM,c⟩,i⟩
   rw[T] at k e f
   cases c with
   |no=>
    simp only;have d:=k.cut aM (Px a 0).2.tx
    split
    ·exact⟨d.iv.up Pv,e.trans d.ex,⟨f,lZ ov⟩,WJ _⟩
    ·exact⟨d.iv.up Pv,e.trans d.ex,f,nO _ _⟩
   |_=>exact⟨k.up Pv,e,f,WJ _⟩
  ·have d:=(o.v h q).1
   rcases T:g.v (Px a 0) b σ with ⟨⟨v,c⟩,i⟩
   rw[T] at d
   cases c with
   |no=>exact⟨d.iv.up Pv,d.ex,d.er,nO _ _⟩
   |_=>exact⟨d.iv.up Pv,d.ex,d.er,WJ _⟩
end
def Nk.pR {a:Nd}(l:Nk 0 a.2)(q:27<=a.2.kd/\a.2.kd<=31):∀x ∈ QA a,Nk 0 x.2:=λx o=>by
 have e:=l.nX Pv;have p:=l.XG Pv;have m:=QW o;obtain⟨d,k,c⟩:=jk m;have f:=UK a d;rw[hk,gq k,c] at f;rw[e.2] at k;rw[show x.2=(Px a d).2 from f.symm]
 rcases d with _|_|d
 ·exact p.1
 ·exact e.1
 ·omega
def Wm (p:FI g n)(h:Q n j b σ)(s:Nk 0 a.2)(m:27<=a.2.kd/\a.2.kd<=31):VO j σ (kZ g a b σ):=by
 have d:=qt p (QA a) [] h (s.pR m) (λ_ h=>by cases h);unfold kZ
 rcases o:Vq g b (QA a) [] σ with ⟨⟨l,c⟩,i⟩
 rw[o] at d
 rcases l with _|⟨f,_|⟨k,l⟩⟩
 ·exact⟨d.iv,d.ex,d.er,WJ _⟩
 ·exact⟨d.iv,d.ex,d.er,WJ _⟩
 ·
  cases c with
  |no=>
   obtain⟨q,e⟩:=Ox i.M.objs.length i.M a.2.kd f k;refine⟨d.iv,d.ex,?_,q⟩
   show Eo i (XB i.M a.2.kd f k).2
   rcases e with e|⟨t,e,r⟩
   ·rw[e];exact d.er
   ·rw[e];exact⟨d.er,lZ r⟩
  |_=>exact⟨d.iv,d.ex,d.er,WJ _⟩
def aHU (k:FI g n)(h:Q (n+1) j b σ)(f:Nk 0 a.2):VO j σ (ZQ g a b σ)/\σ.steps<(ZQ g a b σ).2.steps:=by
 suffices H:VO j σ.step (ZQ g a b σ) from ⟨H.after (Ex.step σ),H.ex.st⟩
 by_cases au:σ.steps<20000
 ·have e:=h.step (show ¬ 20000<σ.steps+1 by omega);have o:=(Nx.refl e.iv).up (show j - 10000<=j by omega)
  by_cases E:a.2.kd=17
  ·rw[yn au E];exact .ret o e.st (xT (f.num E))
  by_cases F:a.2.kd=18
  ·rw[wG au F];exact .ret o e.st (lZ (f.str F))
  by_cases ad:a.2.kd=19
  ·rw[xk au ad];exact .ret o e.st (nO _ _)
  by_cases ae:a.2.kd=20
  ·rw[vk au ae];exact .ret o e.st (nO _ _)
  by_cases af:a.2.kd=21
  ·rw[zk au af];exact .ret o e.st ⟨λ_=>by decide,pV,λc=>by cases c⟩
  by_cases M:a.2.kd=23
  ·rw[wK au M];have p:=e.iv.look a b;unfold p6;simp only
   split
   ·exact .ret (p.up Pv) e.st (avH p.iv.gm _ _)
   ·exact .ga (p.up Pv) e.st w4
  by_cases z:a.2.kd=24
  ·rw[yS au z];exact(Lp k e f z).up Pv
  by_cases X:a.2.kd=25\/a.2.kd=26
  ·have c:ZQ g a b σ=mf g a b σ.step:=by rcases X with q|q;exact yT au q;exact we au q
   rw[c];have d:=(k.v e (f.XG Pv).1).1;unfold mf;have U{G}(h:G:=by
   cases c with
   |no=>
    simp only
    split
    ·exact d.up Pv
    ·exact((k.v (e.next d) (f.nX Pv).1).1.after d.ex).up Pv
   |_=>exact d.up Pv):=Pq h;exact m8
  by_cases N:27<=a.2.kd/\a.2.kd<=31
  ·have c:ZQ g a b σ=kZ g a b σ.step:=CE
   rw[c];exact(Wm k e f N).up Pv
  by_cases ah:a.2.kd=32
  ·rw[zd au ah];have d:=(k.v e (f.XG Pv).1).1;unfold o9;have U{G}(h:G:=by
   cases c with
   |no=>exact⟨d.iv.up Pv,d.ex,d.er,nO _ _⟩
   |_=>exact d.err.up Pv):=Pq h;exact m8
  by_cases ak:a.2.kd=33
  ·rw[vi au ak];have d:=(k.v e (f.XG Pv).1).1;unfold nh
   split
   ·exact .ret o e.st (lZ PK)
   ·have U{G}(h:G:=by
    cases c with
    |no=>exact⟨d.iv.up Pv,d.ex,d.er,lZ (avJ _ _)⟩
    |_=>exact d.err.up Pv):=Pq h;exact m8
  by_cases A:a.2.kd=34
  ·rw[yB au A];exact(aAj k e f A).up Pv
  by_cases B:a.2.kd=35
  ·rw[uW au B];exact(LJ k e f B).up Pv
  by_cases R:a.2.kd=36
  ·rw[uy au R];obtain⟨r,s,t,_⟩:=p3 k e (d:=Px a 0) (f.XG Pv).1;unfold pb
   rcases T:UW g (Px a 0) b σ.step with ⟨⟨aM,c⟩,i⟩
   rw[T] at r s t
   cases c with
   |no=>
    refine⟨r.up Pv,s,t,?_⟩
    show Gv _ (((i.M.gQ aM a.2.tx).map Pr.v).getD vU)
    cases L:i.M.gQ aM a.2.tx with
    |none=>exact WJ _
    |some ap=>exact HG r.gm L
   |_=>exact⟨r.up Pv,s,t,WJ _⟩
  by_cases C:a.2.kd=37
  ·rw[uE au C];obtain⟨p,u⟩:=e.iv.lB (f.lB C) e.po;exact .ret (p.up Pv) e.st u
  by_cases D:a.2.kd=38
  ·rw[yE au D];obtain⟨p,u⟩:=f.obj D;have r:=e.iv.Qo (m:=0) Pv;have t:=HB k σ.step.M.objs.length (QA a) (e.nx r) ⟨by omega,by simp[Mo.Qo];omega⟩ (λq s=>(p q s).1)
   exact(VO.after r.ex t).up (by rw[Tz];omega)
  rw[rm au Pv];exact .ret o e.st (WJ _)
 ·rw[vK au];have:=h.st;exact⟨h.iv.step.up Pv,Ex.refl _,by show σ.steps+1=20001;omega,WJ _⟩
end
inductive Sk (d:Nd):Prop
 |decl (E:d.2.kd=2\/d.2.kd=3\/d.2.kd=4) (hl:d.2.fS.length<=1) (ac:∀k ∈ QA d,Nk 0 k.2)
 |func (E:d.2.kd=5)|empty (E:d.2.kd=16)
 |gG (E:d.2.kd=6) (D:Bk d.2)
 |lA (E:d.2.kd=7) (hl:d.2.fS.length=2\/d.2.fS.length=3) (h0:Nk 0 (Px d 0).2) (h1:Nk 1 (Px d 1).2) (bV:QE (Px d 1).2=false) (O:d.2.fS.length=3->Nk 1 (Px d 2).2/\QE (Px d 2).2=false)
 |loop (E:d.2.kd=8\/d.2.kd=9) (hl:d.2.fS.length=2) (h0:Nk 0 (Px d 0).2) (h1:Nk 1 (Px d 1).2) (bV:QE (Px d 1).2=false)
 |h6 (E:d.2.kd=10) (hl:d.2.fS.length<=1) (ac:∀k ∈ QA d,Nk 0 k.2)
 |one (E:d.2.kd=11\/d.2.kd=15) (hl:d.2.fS.length=1) (h0:Nk 0 (Px d 0).2)
 |mj (E:d.2.kd=12) (hl:2<=d.2.fS.length/\d.2.fS.length<=3) (h0:Nk 1 (Px d 0).2) (dw:QE (Px d 0).2=false) (ac:∀k ∈ (QA d).tail,(k.2.kd=13\/k.2.kd=14)/\k.2.fS.length=1/\Nk 1 (Px k 0).2/\QE (Px k 0).2=false)
def Nk.wF {a:Tr}(h:Nk 3 a):Nk 1 a/\QE a=false:=by
 have b:=h.sh;refine⟨⟨.Y6 h.sh,h.ct,h.nb⟩,?_⟩
 cases b with
 |gG _=>rfl
def rW {a:Tr}(h:Yc a=false):QE a=false:=by
 unfold Yc at h;unfold QE
 revert h
 cases a.kd==3 <;> cases a.kd==4 <;> simp
def Nk.sk {s:Nd}(h:Nk 1 s.2):Sk s:=by
 have n:=(sS h.nb).2;obtain⟨no,v⟩:=s;have i:=h.sh;simp only at i h n;have c:∀{e:Nat}{f:Tr},f ∈ v.fS->Tf Sm Sm Nb e f->Nk e f:=λg a=>h.iK g a
 cases i with
 |decl a _ d p _=>exact .decl a p λf a=>c (QW a) (d _ (QW a))
 |func _ _ _=>exact .func rfl
 |Y6 l=>
  have m:Nk 3 v:=⟨l,h.ct,h.nb⟩;refine .gG ?_ (m.bk Pv)
  cases l with
  |gG _=>rfl
 |@lA k b d i=>
  have j:b ∈ [k,b]:=gO _ gt;exact .lA rfl (.inl rfl) (c gt d) (c j i) (rW (n (.inl rfl) _ j)) (λl=>by cases l)
 |@qA k b e d i m=>
  have j:b ∈ [k,b,e]:=gO _ gt;have l:e ∈ [k,b,e]:=gO _ (gO _ gt);exact .lA rfl (.inr rfl) (c gt d) (c j i) (rW (n (.inl rfl) _ j)) (λ_=>⟨c l m,rW (n (.inl rfl) _ l)⟩)
 |@loop C k b a d i=>
  have j:b ∈ [k,b]:=gO _ gt;exact .loop a rfl (c gt d) (c j i) (rW (n (.inr a) _ j))
 |@h6 C l a d p q=>
  rcases a with rfl|rfl
  ·exact .h6 rfl p λf a=>c (QW a) (d _ (QW a))
  ·have:=q rfl
   rcases l with _|⟨k,_|⟨b,l⟩⟩
   ·simp at this
   ·exact .one (.inl rfl) rfl (c gt (d _ gt))
   ·simp at this
 |@mj b e o l q z p=>
  obtain⟨A,B⟩:=Nk.wF (c gt l);refine .mj rfl ⟨by show 2<=(b::(e++o)).length;simp;omega,by show (b::(e++o)).length<=3;simp;omega⟩ A B λf a=>?_
  have g:f.2 ∈ e++o:=by
   have u:f.2 ∈ ((QA (no,.mk 12 PE 0 (b::(e++o)))).tail).map (·.2):=h4.2 ⟨f,a,rfl⟩;rw[List.map_tail,Yv] at u;exact u
  have t:f.2 ∈ b::(e++o):=gO _ g;obtain⟨D,w⟩:=f;simp only at g t
  rcases gB.1 g with g|g
  ·have m:=q w g;have r:=c t m
   cases m with
   |cat _ l=>exact⟨.inl rfl,rfl,Nk.wF (r.iK gt l)⟩
  ·have m:=z w g;have r:=c t m
   cases m with
   |fin l=>exact⟨.inr rfl,rfl,Nk.wF (r.iK gt l)⟩
 |empty=>exact .empty rfl
 |expr d=>exact .one (.inr rfl) rfl (c gt d)
section
variable {j N':Int}{σ i ak:St}{v:Va}{c:Er}{k:Nat}{b:Pl}{g:Fx}{a:Nd}{n M:Option Va}{aM:Oc}
def ue (f:FI g k)(h:Q k j b σ)(e:∀d ∈ QA a,Nk 0 d.2):VO j σ (U5 g (QA a) b σ):=by
 unfold U5
 split
 ·exact .ret (Nx.refl h.iv) h.st (WJ _)
 ·rename_i d m l
  exact(f.v h (e d (by rw[l];exact gt))).1
def De (o:FI g k)(u:Nk 0 (Px a 0).2)(z:Nk 1 (Px a 1).2)(s:QE (Px a 1).2=false):∀(f:Nat){n:Option Va}{σ:St},Q k j b σ->20001<σ.steps+f->Lg σ n->SO j σ (Zl g a b f n σ)
 |0,n,σ,h,A,_=>by have:=h.st;omega
 |f+1,n,σ,h,A,B=>by
  obtain⟨d,t⟩:=o.v h u;rw[Zl]
  rcases T:g.v (Px a 0) b σ with ⟨⟨v,c⟩,i⟩
  rw[T] at d t;have p:=B.up d.ex
  cases c with
  |no=>
   simp only;have q:=h.next d
   split
   ·obtain⟨e,r⟩:=o.s q z (λc=>by rw[s] at c;cases c) p
    rcases C:g.s (Px a 1) b n i with ⟨⟨aM,c,M⟩,ak⟩
    rw[C] at e r
    cases c with
    |no=>
     simp only
     split
     ·exact e.after d.ex
     ·exact((De o u z s f (q.jd e) (by dsimp only at t r;omega) e.la).after e.ex).after d.ex
    |_=>exact e.after d.ex
   ·exact⟨d.iv,d.ex,d.er,WJ _,p⟩
  |_=>exact⟨d.iv,d.ex,d.er,WJ _,p⟩
structure Z (f:Nat)(N:Int)(p:Pl)(σ:St)(o:Oc)(e:Er)(l:Option Va):Prop where
 fu:20001<σ.steps+f
 iv:Iv N σ
 po:Po p σ
 er:Eo σ e
 va:Gv σ.M.objs.length o.v
 la:Lg σ l
def Z.q (h:Z k j b σ aM c n)(d:c≠.stop):Q k j b σ:=⟨h.fu,by
 have:=h.er
 cases c with
 |no=>exact this
 |stop=>exact absurd rfl d
 |Y3 v=>exact this.1
 |iZ=>exact this.elim,h.iv,h.po⟩
def Z.so (h:Z k j b σ aM c n):SO j σ ((aM,c,n),σ):=⟨h.iv,Ex.refl _,h.er,h.va,h.la⟩
def Eo.up (h:Eo σ c)(d:Eo i .no)(x:Ex σ i)(e:c≠.stop):Eo i c:=by
 cases c with
 |no=>exact d
 |stop=>exact absurd rfl e
 |Y3 v=>exact⟨d,h.2.up x.ob⟩
 |iZ=>exact h
section
variable (f:FI g k)(h:Z k j b σ aM c n)(q:Nk 1 (Px a 0).2)(p:QE (Px a 0).2=false)
include f h q p
def Gg:SO (j+2) σ (XP g a b aM c n σ):=by
 unfold XP
 cases c with
 |Y3 v=>
  simp only;have z{G}(h:G:=by
  have r:Q k (j+2) { b with scope:=σ.gu } ((σ.gv b.scope (-1) (own a)).ho σ.gu a.2.tx 0 v):=⟨by rw[d.st];exact e.fu,by rw[d.st];exact e.st,d.iv.up Pv,s⟩
  exact(f.s r q (λc=>by rw[p] at c;cases c) (h.la.up d.ex)).1.after d.ex):=Pq h;exact zw
 |_=>exact h.so.up Pv
def JP:SO (j+2) σ (V7 g a b aM c n σ):=by
 by_cases e:c=.stop
 ·subst e;exact h.so.up Pv
 ·have d:=(f.s (h.q e) q (λc=>by rw[p] at c;cases c) h.la).1
  have z{G}(h:G:=by
  cases s with
  |no=>
   simp only
   split
   ·exact d.up Pv
   ·exact⟨d.iv.up Pv,d.ex,h.er.up d.er d.ex e,h.va.up d.ex.ob,d.la⟩
  |_=>exact d.up Pv):=Pq h;exact zJ
end
def Gt (p:FI g k):∀(f:List Nd){j:Int}{aM:Oc}{c:Er}{n:Option Va}{σ:St},Z k j b σ aM c n->(∀d ∈ f,Nk 1 (Px d 0).2/\QE (Px d 0).2=false)->SO (j+2 * f.length) σ (kX g b f aM c n σ)
 |[],j,aM,c,n,σ,h,_=>h.so.up Qh
 |d::f,j,aM,c,n,σ,h,q=>by
  obtain⟨s,r⟩:=q d gt;rw[kX];have e:SO (j+2) σ (if d.2.kd=13 then XP g d b aM c n σ else V7 g d b aM c n σ):=by
   split
   ·exact Gg p h s r
   ·exact JP p h s r
  generalize (if d.2.kd=13 then XP g d b aM c n σ else V7 g d b aM c n σ)=o at e ⊢
  have t:=Gt p f (j:=j+2) (aM:=o.1.1) (c:=o.1.2.1) (n:=o.1.2.2) (σ:=o.2) ⟨by have:=h.fu;have:=e.ex.st;omega,e.iv,h.po.up e.ex,e.er,e.va,e.la⟩ (λx u=>q x (gO _ u))
  exact(t.after e.ex).up (by rw[g4];push_cast;omega)
def aHV (p:FI g k)(h:Q (k+1) j b σ)(ah:Nk 1 a.2)(af:QE a.2=true->K4 σ.M b.scope a.2.tx)(X:Lg σ n):SO j σ (jB g k a b n σ)/\σ.steps<(jB g k a b n σ).2.steps:=by
 suffices H:SO j σ.step (jB g k a b n σ) from ⟨H.after (Ex.step σ),H.ex.st⟩
 by_cases au:σ.steps<20000
 ·have f:=h.step (show ¬ 20000<σ.steps+1 by omega);have L:=(Nx.refl f.iv).up (show j - 10000<=j by omega);have o:Lg σ.step n:=X
  cases ah.sk with
  |decl e B u=>
   by_cases N:a.2.kd=2
   ·rw[vB au N]
    split
    ·exact .ret L f.st (WJ _) o
    ·rename_i al
     have ad:(Px a 0) ∈ QA a:=IJ
     have d:=(p.v f (u _ ad)).1;unfold oQ;have U{G}(h:G:=by
     cases c with
     |no=>
      obtain⟨t,E,ae⟩:=Cm d.iv d.er d.va (σ.step.M.find b.scope a.2.tx) a.2.tx b.f3;exact⟨t.up Pv,d.ex.trans E,ae,WJ _,o.up (d.ex.trans E)⟩
     |_=>exact(d.qw o).up Pv):=Pq h;exact m8
   ·have ad:jB g k a b n σ=((SG,(lD a b (U5 g (QA a) b σ.step)).1,n),(lD a b (U5 g (QA a) b σ.step)).2):=by
     rcases e with q|q|q
     ·exact absurd q N
     ·exact ul au q
     ·exact x7 au q
    have ae:QE a.2=true:=by
     unfold QE
     rcases e with q|q|q
     ·exact absurd q N
     all_goals
      rw[q];rfl
    rw[ad];have d:=ue p f u;unfold lD
    rcases T:U5 g (QA a) b σ.step with ⟨⟨v,c⟩,i⟩
    rw[T] at d
    cases c with
    |no=>
     have t:=d.iv.start d.va b.scope a.2.tx;have E:K4 i.M b.scope a.2.tx:=d.ex.k4 _ _ (af ae);refine⟨t.iv.up Pv,d.ex.trans t.ex,?_,WJ _,o.up (d.ex.trans t.ex)⟩
     show Eo _ (mW (i.M.start b.scope a.2.tx v).1)
     rw[ar6 E];exact d.er
    |_=>exact(d.qw o).up Pv
  |func e=>rw[pE au Pv];exact .ret L f.st (WJ _) o
  |empty e=>rw[pE au Pv];exact .ret L f.st (WJ _) o
  |gG e t=>
   rw[uX au e];obtain⟨r,F,E⟩:=f.iv.block t f.po;have R:Q k (j - 10000+5000) (QD a b σ.step).1 (QD a b σ.step).2:=⟨by rw[r.st];exact f.fu,by rw[r.st];exact f.st,r.iv,F⟩
   exact((pI p (QA a) R (λq e=>t.ks _ (QW e)) E (o.up r.ex)).after r.ex).up Pv
  |lA e B s C D t=>
   rw[wD au e];have d:=(p.v f s).1;unfold na;have U{G}(h:G:=by
   have z:=o.up d.ex
   cases c with
   |no=>
    simp only
    split
    ·exact((p.s (f.next d) C (λc=>by rw[D] at c;cases c) z).1.after d.ex).up Pv
    ·split
     ·obtain⟨E,N⟩:=t Pv;exact((p.s (f.next d) E (λc=>by rw[N] at c;cases c) z).1.after d.ex).up Pv
     ·exact⟨d.iv.up Pv,d.ex,d.er,WJ _,z⟩
   |_=>exact(d.qw o).up Pv):=Pq h;exact m8
  |loop e B s C D=>
   rcases e with e|e
   ·rw[us au e];exact(De p s C D k f f.fu o).up Pv
   ·rw[uJ au e];obtain⟨E,t,N,_⟩:=p3 p f (d:=Px a 0) s;unfold oI
    rcases T:UW g (Px a 0) b σ.step with ⟨⟨aM,c⟩,i⟩
    rw[T] at E t N;have z:=o.up t
    cases c with
    |no=>
     simp only;have r:=E.gv b.scope aM (-2);have U{G}(h:G:=by
     have R:Q k (j - 10000+1) { b with scope:=i.gu } (i.gv b.scope aM (-2)):=⟨by have:=f.fu;have:=t.st;dsimp only at this;show 20001<i.steps+k;omega,by rw[r.st];exact N,r.iv,aU⟩
     exact((p.s R C (λc=>by rw[D] at c;cases c) (z.up r.ex)).1.after (t.trans r.ex)).up Pv):=Pq h;exact FR
    |_=>exact⟨E.up Pv,t,N,WJ _,z⟩
  |h6 e B u=>
   rw[uC au e];have d:=ue p f u;exact⟨d.iv.up Pv,d.ex,d.er,d.va,o.up d.ex⟩
  |one e B s=>
   have d:=(p.v f s).1
   rcases e with e|e
   ·rw[vY au e];unfold pP;have U{G}(h:G:=by
    cases c with
    |no=>exact⟨d.iv.up Pv,d.ex,⟨d.er,d.va⟩,WJ _,o.up d.ex⟩
    |_=>exact(d.qw o).up Pv):=Pq h;exact m8
   ·rw[yJ au e];unfold nK;have U{G}(h:G:=by
    cases c with
    |no=>
     refine⟨d.iv.up Pv,d.ex,d.er,WJ _,λx A=>?_⟩
     cases n with
     |none=>cases A
     |some y=>cases A;exact d.va
    |_=>exact(d.qw o).up Pv):=Pq h;exact m8
  |mj e B s N u=>
   rw[wZ au e];have t:=(p.s f s (λc=>by rw[N] at c;cases c) o).1
   generalize g.s (Px a 0) b n σ.step=E at t ⊢
   have F:=Gt p (QA a).tail (j:=j - 10000) (aM:=E.1.1) (c:=E.1.2.1) (n:=E.1.2.2) (σ:=E.2) ⟨by have:=f.fu;have:=t.ex.st;omega,t.iv,f.po.up t.ex,t.er,t.va,t.la⟩ (λx A=>⟨(u x A).2.2.1,(u x A).2.2.2⟩)
   exact(F.after t.ex).up (by rw[lN,Tz];omega)
 ·rw[xq au];have:=h.st;exact⟨h.iv.step.up Pv,Ex.refl _,by show σ.steps+1=20001;omega,WJ _,X⟩
def pg:∀k,FI (fx k) k
 |0=>⟨λh _=>by have:=h.fu;have:=h.st;omega,λh _ _ _=>by have:=h.fu;have:=h.st;omega⟩
 |k+1=>⟨λh d=>aHU (pg k) h d,λh d e f=>aHV (pg k) h d e f⟩
def ii:St:=⟨⟨[⟨0,[]⟩],[⟨-1,0,[]⟩,⟨0,-1,[]⟩]⟩,[],0,[],[-1,0],[],0⟩
def It:Iv 10 ii:=by
 refine⟨⟨10,⟨⟨⟨λd x h=>?_,λd x h=>?_,λd x h=>?_,λd x h=>?_⟩,by decide,by decide,λx e=>?_,λx e=>?_⟩,by decide,by decide,by decide,by decide,rfl⟩,by decide⟩,⟨λx e p f=>?_,λx e p f=>?_,λx e=>?_⟩,(λk p=>by cases p),by decide,by decide,by decide⟩
 ·rcases d with _|_|d
  ·
   cases h;exact⟨by decide,by decide⟩
  ·
   cases h;exact⟨by decide,by decide⟩
  ·
   cases h
 ·rcases d with _|_|d
  ·
   cases h;exact .inr ⟨0,rfl,by decide⟩
  ·
   cases h;exact .inl rfl
  ·
   cases h
 ·rcases d with _|d
  ·
   cases h;intro d o m a l;cases l
  ·
   cases h
 ·rcases d with _|_|d
  ·
   cases h;intro d o m a l;cases l
  ·
   cases h;intro d o m a l;cases l
  ·
   cases h
 ·rw[gn.1 e];exact ge _
 ·rcases gE.1 e with rfl|e
  ·exact ge _
  ·rw[gn.1 e];exact ge _
 ·rw[gn.1 e] at f;cases f
 ·rcases gE.1 e with rfl|e
  ·
   cases f
  ·rw[gn.1 e] at f;cases f
 ·rw[gn.1 e];exact⟨by decide,by decide⟩
def Yy:Iv 100 RU/\N4 RU.M 1:=by
 have r:=It.Qo (m:=1) PK;have d:=r.iv.put (v:=UU 1) (sZ ⟨by decide,by decide⟩) 0 Xy false;have o:=d.iv.Qo (m:=2) ⟨by decide,by show (2:Int)<3+_;omega⟩
 have e:=o.iv.put (v:=UU 2) (sZ ⟨by decide,by
  show (2:Int)<((Mo.Qo _ 2).objs.length:Nat)
  have c:(Mo.put (ii.M.Qo 1) 0 Xy (UU 1) false).2.objs.length=2:=by rw[(Wv _ _ _ _ _).ol];rfl
  show (2:Int)<(((Mo.put (ii.M.Qo 1) 0 Xy (UU 1) false).2.objs++[_]).length:Nat)
  rw[gg,c]
  decide⟩) 0 TQ false
 have q:N4 ii.M 1:=⟨1,_,rfl,rfl,rfl,λm f=>by cases f⟩;have p:=N4.mi (a:=ii.M.Qo 1) (show N4 (ii.M.Qo 1) 1 from q) (Wv _ 0 Xy (UU 1) false) PK;have s:=N4.mi (a:=((ii.M.Qo 1).put 0 Xy (UU 1) false).2.Qo 2) p (Wv _ 0 TQ (UU 2) false) PK;exact⟨e.iv.up PK,s⟩
def azm {d:Tr}(f:Bk d):SO 9000 RU ((Ti (fx 20002) (Rf (some 0,d) RU).1 (QA (some 0,d)) none (Rf (some 0,d) RU).2)):=by
 obtain⟨e,o,q⟩:=Yy.1.prog (d:=(some 0,d)) f Yy.2;have p:Q 20002 9000 (Rf (some 0,d) RU).1 (Rf (some 0,d) RU).2:=⟨by omega,by rw[e.st];decide,e.iv.up Pv,o⟩
 exact(pI (pg 20002) (QA (some 0,d)) (o:=none) p (λm l=>f.ks _ (QW l)) q (λ_ c=>by cases c)).after e.ex
