import Derived.Test.YticfnaiehdpbmaaGreatDoorOn9
import Derived.Test.YticfnaiehdpbmaaGreatDoorOn10
import Derived.Lib.ItoaNum
set_option maxRecDepth 100000
set_option maxHeartbeats 8000000
set_option linter.all false
namespace Go.Proofs.YticfnaiehdpbmaaGreatDoor
open Go.RowKit Go.Proofs.Tryz
namespace Hp
instance:DecidableEq Va:=fun a b=>decidable_of_iff (a.k=b.k/\a.n=b.n/\a.s=b.s) ⟨fun⟨h1,U,aw⟩=>by cases a;cases b;simp_all,fun h=>by subst h;exact⟨rfl,rfl,rfl⟩⟩
def vU:Va:=⟨0,0,Ox⟩
def agJ:Va:=⟨1,0,Ox⟩
def Qi (b:Bool):Va:=⟨2,if b then 1 else 0,Ox⟩
def Xh (n:Int):Va:=⟨3,n,Ox⟩
def Wn (s:OH):Va:=⟨4,0,s⟩
def Um (o:Int):Va:=⟨5,o,Ox⟩
def Va.tru (v:Va):Bool:=if v.k=0\/v.k=1 then false else if v.k=2\/v.k=3 then v.n != 0 else if v.k=4 then !decide (v.s=Ox) else true
abbrev Q7:OH:=⟨#[114,101,102,101,114,101,110,99,101]⟩
abbrev tType:OH:=⟨#[116,121,112,101]⟩
abbrev UM:OH:=⟨#[114,97,110,103,101]⟩
abbrev UC:OH:=⟨#[115,121,110,116,97,120]⟩
abbrev RI:OH:=⟨#[117,110,100,101,102,105,110,101,100]⟩
abbrev akh:OH:=⟨#[110,117,108,108]⟩
abbrev abK:OH:=⟨#[116,114,117,101]⟩
abbrev Y2:OH:=⟨#[102,97,108,115,101]⟩
abbrev Qm:OH:=⟨#[102,117,110,99,116,105,111,110]⟩
abbrev YA:OH:=⟨#[111,98,106,101,99,116]⟩
abbrev agK:OH:=⟨#[98,111,111,108,101,97,110]⟩
abbrev akr:OH:=⟨#[110,117,109,98,101,114]⟩
abbrev aks:OH:=⟨#[115,116,114,105,110,103]⟩
abbrev YB:OH:=⟨#[108,101,110,103,116,104]⟩
abbrev SL:OH:=⟨#[112,114,105,110,116]⟩
def aaP (n:Int):OH:=⟨(Lib.itoa n).toArray⟩
def Yg (a b:OH):OH:=⟨(a.data.toList++b.data.toList).toArray⟩
def XP:List OH->OH
 | []=>Ox
 | [a]=>a
 | a::l=>Yg a (Yg ⟨#[32]⟩ (XP l))
def Mo.shw (M:Mo)(v:Va):OH:=
 if v.k=0 then RI else if v.k=1 then akh else if v.k=2 then (if v.tru then abK else Y2) else if v.k=3 then aaP v.n else if v.k=4 then v.s else if v.k=5 then (if M.codeOf v.n≠0 then Qm else YA) else Ox
inductive Er where
 | no
 | stop
 | XU (v:Va)
 | mis
def erP (c:Int):Er:=if c=0 then .no else .mis
abbrev bad (s:OH):Er:=.XU (Wn s)
abbrev Nd:=Option Nat × Tr
structure Fu where
 d:Nd
 scope:Int
 strict:Bool
structure Pl where
 scope:Int
 declares:Int
 strict:Bool
structure St where
 M:Mo
 log:List OH
 steps:Nat
 seen:List (Int × Int)
 QF:List Int
 Rq:List Fu
 calls:Nat
def YL:Option Nat->List Tr->List Nd
 | _,[]=>[]
 | no,t::ao=>(no,t)::YL (no.map (· + t.count)) ao
abbrev P9 (d:Nd):List Nd:=YL (d.1.map (· + 1)) d.2.kids
abbrev ase:Nd:=(none,.mk 22 Ox 0 [])
abbrev Oy (d:Nd)(i:Nat):Nd:=(P9 d).getD i ase
def own (d:Nd):Int:=match d.1 with
 | some k=>k
 | none=>-3
def St.opn (σ:St)(u o ow:Int):St:={ σ with M:=σ.M.scope u o,QF:=σ.QF++[ow] }
abbrev St.top (σ:St):Int:=σ.M.OI.length
def St.step (σ:St):St:={ σ with steps:=σ.steps+1 }
def mkFun (d:Nd)(p:Pl)(σ:St):Va × St:=
 (Um σ.M.objs.length,{ σ with Rq:=σ.Rq++[⟨d,p.scope,p.strict||Pg (Oy d 1).2⟩],M:=σ.M.Pz (3+σ.Rq.length) })
def St.dec (σ:St)(s:Int)(nm:OH)(kd:Int)(v:Va):St:={ σ with M:=(σ.M.declare s nm kd v).2 }
def St.RG (σ:St)(o:Int)(nm:OH)(v:Va)(fx:Bool):St:={ σ with M:=(σ.M.put o nm v fx).2 }
def Xi (d:Nd)(p:Pl)(σ:St):Va × St:=
 if d.2.tx=Ox then mkFun d p σ else
  let s:=σ.top
  let σ1:=σ.opn p.scope (-1) (own d)
  let r:=mkFun d { p with scope:=s } σ1
  (r.1,r.2.dec s d.2.tx 3 r.1)
def settle (s:Int)(nm:OH)(v:Va)(σ:St):St:=
 if (σ.M.declare s nm 0 v).1=0 then σ.dec s nm 0 v else { σ with M:=(σ.M.write s nm v).2 }
def Qz (ao:List Tr)(s:Int)(σ:St):St:=ao.foldl (fun σ k=>σ.dec s k.tx (if k.kd=4 then 2 else 1) vU) σ
def TY (d:Nd):List Nd:=(P9 d).filter fun k=>TM k.2
def U4 (d:Nd)(p:Pl)(σ:St):St:=(TY d).foldl (fun σ k=>let r:=mkFun k p σ;settle p.scope k.2.tx r.1 r.2) σ
def PZ (d:Nd)(σ:St):Pl × St:=
 let σ1:=(P6 d.2).foldl (fun σ nm=>if σ.M.has 0 nm then σ else σ.RG 0 nm vU true) σ
 let cy:=Qz (Pv d.2) 1 σ1
 let p:Pl:=⟨1,0,Pg d.2⟩
 (p,(TY d).foldl (fun σ k=>let r:=mkFun k p σ;r.2.RG 0 k.2.tx r.1 true) cy)
def hasArgs (ps:List Tr)(bl:Tr):Bool:=!(ps.any fun k=>decide (k.tx=tArgs)) && !hasB (namesT bl false) tArgs
def Tq (args:List Va)(σ:St):Va × St:=
 let o:Int:=σ.M.objs.length
 let σ1:=({ σ with M:=σ.M.Pz 0 }:St).RG o YB (Xh args.length) false
 (Um o,(args.zipIdx).foldl (fun σ (v,i)=>σ.RG o (Yg ⟨#[97]⟩ (aaP i)) v false) σ1)
def Tt (d:Nd)(p:Pl)(args:List Va)(σ:St):St:=
 let ps:=(Oy d 0).2.kids
 let bl:=Oy d 1
 let σ1:=(ps.zipIdx).foldl (fun σ (k,i)=>settle p.scope k.tx (args.getD i vU) σ) σ
 let cy:=if hasArgs ps bl.2 then let r:=Tq args σ1;r.2.dec p.scope tArgs 0 r.1 else σ1
 let xe:=(P6 bl.2).foldl (fun σ nm=>σ.dec p.scope nm 0 vU) cy
 U4 bl p (Qz (Pv bl.2) p.scope xe)
def Qg (d:Nd)(p:Pl)(σ:St):Pl × St:=
 if (namesT d.2 false).length=0 then (p,σ) else
  let s:=σ.top
  let cz:={ p with scope:=s }
  (cz,U4 d cz (Qz (Pv d.2) s (σ.opn p.scope (-1) (own d))))
def look (d:Nd)(p:Pl)(σ:St):Int × St:=
 let s:=σ.M.find p.scope d.2.tx
 (s,match d.1 with
  | some k=>if s≠-1 then { σ with seen:=σ.seen++[((k:Int),σ.QF.getD s.toNat 0)] } else σ
  | none=>σ)
def XE (s:Int)(nm:OH)(v:Va)(strict:Bool)(σ:St):Er × St:=
 if strict then (bad Q7,σ) else
  let o:=σ.M.RD s
  (erP (σ.M.put (if o = -1 then 0 else o) nm v false).1,σ.RG (if o = -1 then 0 else o) nm v false)
def asg (s:Int)(nm:OH)(v:Va)(strict:Bool)(σ:St):Er × St:=
 let r:=σ.M.write s nm v
 let σ1:St:={ σ with M:=r.2 }
 if r.1=7 then XE s nm v strict σ1 else if r.1=6 then (bad Q7,σ1) else if r.1=1 then (bad tType,σ1) else if r.1=5 then (if strict then bad tType else .no,σ1) else (.no,σ1)
def Vz (M:Mo)(v:Va):OH:=if v.k=0 then RI else if v.k=2 then agK else if v.k=3 then akr else if v.k=4 then aks else if v.k=5/\M.codeOf v.n≠0 then Qm else YA
def Ve (n:Int):Va × Er:=if n < -1000000000\/1000000000<n then (vU,bad UM) else (Xh n,.no)
def Wp (M:Mo)(kd:Int)(a b:Va):Va × Er:=
 if kd=27 then (Qi (decide (a=b)),.no)
 else if a.k=3/\b.k=3 then (if kd=28 then (Qi (decide (a.n<b.n)),.no) else if kd=29 then Ve (a.n+b.n) else if kd=30 then Ve (a.n - b.n) else Ve (a.n * b.n))
 else if kd=29/\(a.k=4\/b.k=4) then (if 500<(M.shw a).size+(M.shw b).size then (vU,bad UM) else (Wn (Yg (M.shw a) (M.shw b)),.no))
 else if kd=28/\a.k=4/\b.k=4 then (Qi (decide (a.s.data.toList<b.s.data.toList)),.no)
 else (vU,bad tType)
structure Oc where
 ret:Bool
 v:Va
abbrev QW:Oc:=⟨false,vU⟩
structure Fx where
 v:Nd->Pl->St->(Va × Er) × St
 s:Nd->Pl->Option Va->St->(Oc × Er × Option Va) × St
section
variable (F:Fx)
def Vk (p:Pl):List Nd->List Va->St->(List Va × Er) × St
 | [],aX,σ=>((aX,.no),σ)
 | d::a6,aX,σ=>match F.v d p σ with
  | ((v,.no),σ1)=>Vk p a6 (aX++[v]) σ1
  | ((_,e),σ1)=>(([],e),σ1)
def Q8 (p:Pl):List Nd->Option Va->St->(Oc × Er × Option Va) × St
 | [],l,σ=>((QW,.no,l),σ)
 | d::a6,l,σ=>match F.s d p l σ with
  | ((o,.no,b3),σ1)=>if o.ret then ((o,.no,b3),σ1) else Q8 p a6 b3 σ1
  | r=>r
def within (σ:St)(f:St->(Va × Er) × St):(Va × Er) × St:=
 if σ.calls=40 then ((vU,bad UM),σ) else
  let r:=f { σ with calls:=σ.calls+1 }
  (r.1,{ r.2 with calls:=r.2.calls - 1 })
def XF (f:Fu)(args:List Va)(σ:St):(Va × Er) × St:=within σ fun σ=>
 let s:=σ.top
 let σ1:=σ.opn f.scope (-1) (own f.d)
 let p:Pl:=⟨s,s,f.strict⟩
 let r:=Q8 F p (P9 (Oy f.d 1)) none (Tt f.d p args σ1)
 ((r.1.1.v,r.1.2.1),r.2)
def TP (t:Tr):List OH:=P6 t++(TV t).map Tr.tx
def agL (M:Mo)(nm:OH)(stop:Int):Nat->Int->Bool
 | 0,_=>false
 | f+1,s=>if s = -1 then false else if M.kindOf s nm=1\/M.kindOf s nm=2 then true else if s=stop then false else agL M nm stop f (M.outOf s)
def hidden (M:Mo)(t:Tr)(p:Pl):Bool:=(TP t).any fun nm=>agL M nm p.declares (M.OI.length+1) p.scope
def loosen (s:Int)(nm:OH)(σ:St):St:=if σ.M.has s nm then σ else if σ.M.RD s≠-1 then σ.RG (σ.M.RD s) nm vU false else σ.dec s nm 4 vU
def OO (d:Nd)(p:Pl)(σ:St):Pl × St:=
 let σ1:=(TP d.2).foldl (fun σ nm=>loosen p.declares nm σ) σ
 let q:Pl × St:=if 0<(Pv d.2).length then ({ p with scope:=σ1.top },Qz (Pv d.2) σ1.top (σ1.opn p.scope (-1) (-3))) else (p,σ1)
 (q.1,(TY d).foldl (fun σ k=>let r:=mkFun k q.1 σ;{ r.2 with M:=(r.2.M.write q.1.declares k.2.tx r.1).2 }) q.2)
def Yh (d:Nd)(p:Pl)(σ:St):(Va × Er) × St:=
 let st:=p.strict||Pg d.2
 if !st&&hidden σ.M d.2 { p with strict:=st } then ((vU,bad UC),σ) else
  let q:Pl × St:=if st then (⟨σ.top,σ.top,true⟩,σ.opn p.scope (-1) (-3)) else ({ p with strict:=st },σ)
  let bD:=OO d q.1 q.2
  let r:=Q8 F bD.1 (P9 d) (some vU) bD.2
  match r.1.2.1 with
  | .no=>((r.1.2.2.getD vU,.no),r.2)
  | e=>((vU,e),r.2)
def Yi (callee:Tr)(p:Pl)(args:List Va)(σ:St):(Va × Er) × St:=
 match args with
 | []=>((vU,.no),σ)
 | a::_=>if a.k≠4 then ((a,.no),σ) else
  let cz:Pl:=if callee.kd≠23\/callee.tx≠Vx then ⟨1,0,false⟩ else p
  within σ fun σ=>match Qd Pn Ph a.s with
   | .ok t=>match chk t cz.strict false false with
    | none=>Yh F (none,t) cz σ
    | some _=>((vU,bad UC),σ)
   | _=>((vU,bad UC),σ)
def ZF (d:Nd)(p:Pl)(σ:St):(Va × Er) × St:=
 match Vk F p (P9 d) [] σ with
 | ((f::args,.no),σ1)=>
  if f.k≠5 then ((vU,bad tType),σ1) else
  let c:=σ1.M.codeOf f.n
  if c=0 then ((vU,bad tType),σ1)
  else if c=1 then ((vU,.no),{ σ1 with log:=σ1.log++[XP (args.map σ1.M.shw)] })
  else if c=2 then Yi F (Oy d 0).2 p args σ1
  else match σ1.Rq[(c - 3).toNat]? with
   | some fn=>XF F fn args σ1
   | none=>((vU,.no),σ1)
 | ((_,e),σ1)=>((vU,e),σ1)
def UW (d:Nd)(p:Pl)(σ:St):(Int × Er) × St:=match F.v d p σ with
 | ((v,.no),σ1)=>if v.k≠5 then ((-1,bad tType),σ1) else ((v.n,.no),σ1)
 | ((_,e),σ1)=>((-1,e),σ1)
def aan (p:Pl)(o:Int):List Nd->St->(Va × Er) × St
 | [],σ=>((Um o,.no),σ)
 | k::ks,σ=>match F.v (Oy k 0) p σ with
  | ((v,.no),σ1)=>aan p o ks (σ1.RG o k.2.tx v false)
  | ((_,e),σ1)=>((vU,e),σ1)
def al2 (d:Nd)(p:Pl)(σ:St):(Va × Er) × St:=
 let t0:=Oy d 0
 if t0.2.kd=36 then
  match F.v (Oy t0 0) p σ with
  | ((ob,.no),σ1)=>match F.v (Oy d 1) p σ1 with
   | ((v,.no),cy)=>if ob.k≠5 then ((vU,bad tType),cy) else ((v,erP (cy.M.put ob.n t0.2.tx v false).1),cy.RG ob.n t0.2.tx v false)
   | ((_,e),cy)=>((vU,e),cy)
  | ((_,e),σ1)=>((vU,e),σ1)
 else
  let r:=look t0 p σ
  match F.v (Oy d 1) p r.2 with
  | ((v,.no),σ1)=>let a:=asg r.1 t0.2.tx v p.strict σ1;((v,a.1),a.2)
  | ((_,e),σ1)=>((vU,e),σ1)
def ab4 (d:Nd)(p:Pl)(σ:St):(Va × Er) × St:=
 let k:=Oy d 0
 if k.2.kd=23 then
  let r:=σ.M.drop (σ.M.find p.scope k.2.tx) k.2.tx
  ((Qi r.1,.no),{ σ with M:=r.2 })
 else if k.2.kd=36 then
  match UW F (Oy k 0) p σ with
  | ((o,.no),σ1)=>let r:=σ1.M.cut o k.2.tx;if !r.1&&p.strict then ((vU,bad tType),{ σ1 with M:=r.2 }) else ((Qi r.1,.no),{ σ1 with M:=r.2 })
  | ((_,e),σ1)=>((vU,e),σ1)
 else match F.v k p σ with
  | ((_,.no),σ1)=>((Qi true,.no),σ1)
  | ((_,e),σ1)=>((vU,e),σ1)
def Zo (d:Nd)(p:Pl)(qL:St):(Va × Er) × St:=
 let σ:=qL.step
 let t:=d.2
 if 20000<σ.steps then ((vU,.stop),σ)
 else if t.kd=17 then ((Xh t.n,.no),σ)
 else if t.kd=18 then ((Wn t.tx,.no),σ)
 else if t.kd=19\/t.kd=20 then ((Qi (decide (t.kd=19)),.no),σ)
 else if t.kd=21 then ((agJ,.no),σ)
 else if t.kd=23 then
  let r:=look d p σ
  let x:=r.2.M.read r.1 t.tx
  if x.2=0 then ((x.1,.no),r.2) else ((vU,bad Q7),r.2)
 else if t.kd=24 then al2 F d p σ
 else if t.kd=25\/t.kd=26 then match F.v (Oy d 0) p σ with
  | ((v,.no),σ1)=>if v.tru=decide (t.kd=25) then ((v,.no),σ1) else F.v (Oy d 1) p σ1
  | r=>r
 else if 27<=t.kd/\t.kd<=31 then match Vk F p (P9 d) [] σ with
  | ((a::b::_,.no),σ1)=>(Wp σ1.M t.kd a b,σ1)
  | ((_,e),σ1)=>((vU,e),σ1)
 else if t.kd=32 then match F.v (Oy d 0) p σ with
  | ((v,.no),σ1)=>((Qi (!v.tru),.no),σ1)
  | ((_,e),σ1)=>((vU,e),σ1)
 else if t.kd=33 then
  if (Oy d 0).2.kd=23/\σ.M.find p.scope (Oy d 0).2.tx = -1 then ((Wn RI,.no),σ)
  else match F.v (Oy d 0) p σ with
   | ((v,.no),σ1)=>((Wn (Vz σ1.M v),.no),σ1)
   | ((_,e),σ1)=>((vU,e),σ1)
 else if t.kd=34 then ab4 F d p σ
 else if t.kd=35 then ZF F d p σ
 else if t.kd=36 then match UW F (Oy d 0) p σ with
  | ((o,.no),σ1)=>((((σ1.M.prop o t.tx).map Pr.v).getD vU,.no),σ1)
  | ((_,e),σ1)=>((vU,e),σ1)
 else if t.kd=37 then let r:=Xi d p σ;((r.1,.no),r.2)
 else if t.kd=38 then aan F p σ.M.objs.length (P9 d) { σ with M:=σ.M.Pz 0 }
 else ((vU,.no),σ)
def Vl (a6:List Nd)(p:Pl)(σ:St):(Va × Er) × St:=match a6 with
 | []=>((vU,.no),σ)
 | d::_=>F.v d p σ
def Y5 (d:Nd)(p:Pl):Nat->Option Va->St->(Oc × Er × Option Va) × St
 | 0,l,σ=>((QW,.stop,l),σ)
 | k+1,l,σ=>match F.v (Oy d 0) p σ with
  | ((v,.no),σ1)=>if v.tru then match F.s (Oy d 1) p l σ1 with
    | ((o,.no,b3),cy)=>if o.ret then ((o,.no,b3),cy) else Y5 d p k b3 cy
    | r=>r
   else ((QW,.no,l),σ1)
  | ((_,e),σ1)=>((QW,e,l),σ1)
def XV (d:Nd)(p:Pl)(o:Oc)(e:Er)(l:Option Va)(σ:St):(Oc × Er × Option Va) × St:=match e with
 | .XU v=>
  let s:=σ.top
  F.s (Oy d 0) { p with scope:=s } l ((σ.opn p.scope (-1) (own d)).dec s d.2.tx 0 v)
 | e=>((o,e,l),σ)
def Wq (d:Nd)(p:Pl)(o:Oc)(e:Er)(l:Option Va)(σ:St):(Oc × Er × Option Va) × St:=match e with
 | .stop=>((o,.stop,l),σ)
 | e=>match F.s (Oy d 0) p l σ with
  | ((bH,.no,b3),σ1)=>if bH.ret then ((bH,.no,b3),σ1) else ((o,e,b3),σ1)
  | r=>r
def aao (p:Pl):List Nd->Oc->Er->Option Va->St->(Oc × Er × Option Va) × St
 | [],o,e,l,σ=>((o,e,l),σ)
 | k::ks,o,e,l,σ=>
  let r:=if k.2.kd=13 then XV F k p o e l σ else Wq F k p o e l σ
  aao p ks r.1.1 r.1.2.1 r.1.2.2 r.2
def stF (fuel:Nat)(d:Nd)(p:Pl)(l:Option Va)(qL:St):(Oc × Er × Option Va) × St:=
 let σ:=qL.step
 let t:=d.2
 if 20000<σ.steps then ((QW,.stop,l),σ)
 else if t.kd=2 then
  if t.kids.length=0 then ((QW,.no,l),σ) else
  let s:=σ.M.find p.scope t.tx
  match F.v (Oy d 0) p σ with
  | ((v,.no),σ1)=>let a:=asg s t.tx v p.strict σ1;((QW,a.1,l),a.2)
  | ((_,e),σ1)=>((QW,e,l),σ1)
 else if t.kd=3\/t.kd=4 then match Vl F (P9 d) p σ with
  | ((v,.no),σ1)=>((QW,erP (σ1.M.start p.scope t.tx v).1,l),{ σ1 with M:=(σ1.M.start p.scope t.tx v).2 })
  | ((_,e),σ1)=>((QW,e,l),σ1)
 else if t.kd=6 then let b:=Qg d p σ;Q8 F b.1 (P9 d) l b.2
 else if t.kd=7 then match F.v (Oy d 0) p σ with
  | ((v,.no),σ1)=>if v.tru then F.s (Oy d 1) p l σ1 else if 2<t.kids.length then F.s (Oy d 2) p l σ1 else ((QW,.no,l),σ1)
  | ((_,e),σ1)=>((QW,e,l),σ1)
 else if t.kd=8 then Y5 F d p fuel l σ
 else if t.kd=9 then match UW F (Oy d 0) p σ with
  | ((o,.no),σ1)=>F.s (Oy d 1) { p with scope:=σ1.top } l (σ1.opn p.scope o (-2))
  | ((_,e),σ1)=>((QW,e,l),σ1)
 else if t.kd=10 then match Vl F (P9 d) p σ with
  | ((v,.no),σ1)=>((⟨true,v⟩,.no,l),σ1)
  | ((v,e),σ1)=>((⟨false,v⟩,e,l),σ1)
 else if t.kd=11 then match F.v (Oy d 0) p σ with
  | ((v,.no),σ1)=>((QW,.XU v,l),σ1)
  | ((_,e),σ1)=>((QW,e,l),σ1)
 else if t.kd=12 then
  let r:=F.s (Oy d 0) p l σ
  aao F p (P9 d).tail r.1.1 r.1.2.1 r.1.2.2 r.2
 else if t.kd=15 then match F.v (Oy d 0) p σ with
  | ((v,.no),σ1)=>((QW,.no,l.map fun _=>v),σ1)
  | ((_,e),σ1)=>((QW,e,l),σ1)
 else ((QW,.no,l),σ)
end
def fx:Nat->Fx
 | 0=>⟨fun _ _ σ=>((vU,.stop),σ),fun _ _ l σ=>((QW,.stop,l),σ)⟩
 | f+1=>⟨Zo (fx f),stF (fx f) f⟩
def QA:St:=
 let M1:=((⟨[],[]⟩:Mo).Pz 0).scope (-1) 0
 let M2:=M1.scope 0 (-1)
 let M3:=((M2.Pz 1).put 0 SL (Um 1) false).2
 let M4:=((M3.Pz 2).put 0 Vx (Um 2) false).2
 ⟨M4,[],0,[],[-1,0],[],0⟩
def QI (t:Tr):Er × St:=
 let bD:=PZ (some 0,t) QA
 let r:=Q8 (fx 20002) bD.1 (P9 (some 0,t)) none bD.2
 (r.1.2.1,r.2)
def ZG (o:Int)(w:Ov):OE 106 #[Ol o] w fun e w'=>e=OQ (vA (Um o))/\OD w w':=by
 go_enter func106,ntmps106
 go_wp2
 refine bodyPost_ret (v:=vA (Um o)) (by simp[results,results106,go_sem,Um]) rfl ⟨rfl,?_⟩;exact PO
def aeO (o:Int)(w:Ov):OE 253 #[Ol o] w fun e w'=>e=OQ (vA (Xh o))/\OD w w':=by
 go_enter func253,ntmps253
 go_wp2
 refine bodyPost_ret (v:=vA (Xh o)) (by simp[results,results253,go_sem,Xh]) rfl ⟨rfl,?_⟩;exact PO
def ZH (s:OH)(w:Ov):OE 254 #[OB s] w fun e w'=>e=OQ (vA (Wn s))/\OD w w':=by
 go_enter func254,ntmps254
 go_wp2
 refine bodyPost_ret (v:=vA (Wn s)) (by simp[results,results254,go_sem,Wn]) rfl ⟨rfl,?_⟩;exact PO
def VL (b:Bool)(w:Ov):OE 255 #[OC b] w fun e w'=>e=OQ (vA (Qi b))/\OD w w':=by
 cases b
 ·go_enter func255,ntmps255
  go_wp2
  refine bodyPost_ret (v:=vA (Qi false)) (by simp[results,results255,go_sem,Qi]) rfl ⟨rfl,?_⟩;exact PO
 ·go_enter func255,ntmps255
  go_wp2
  refine bodyPost_ret (v:=vA (Qi true)) (by simp[results,results255,go_sem,Qi]) rfl ⟨rfl,?_⟩;exact PO
def Xj (s:OH)(w:Ov):OE 269 #[OB s] w fun e w'=>(∃ b,e=OQ (.iface 122 (OM b 0))/\w.heap.size<=b/\w'.heap[b]? = some (O1 #[Ol 4,Ol 0,OB s] 126))/\OD w w':=by
 have ai:=(ZH s w);go_enter func269,ntmps269;go_wp2_with fail;refine cm ai ?_;rintro e w1 ⟨rfl,D⟩;go_wp2;go_ret;refine⟨⟨w1.heap.size,rfl,D.size,?_⟩,D.alloc D.size _⟩;exact OA _ _
def adT (s:OH):s.toList.isEmpty=decide (s=Ox):=by
 by_cases h:s=Ox
 ·subst h;have aw:Ox.toList=[]:=by decide +kernel
  rw[aw];simp
 ·have U:=VJ (b:=Ox) (l:=[]) rfl h;rw[decide_eq_false h]
  cases hl:s.toList with
  | nil=>rw[hl] at U;cases U
  | cons _ _=>rfl
def Xk (v:Va)(w:Ov):OE 132 #[vA v] w fun e w'=>e=OQ (OC v.tru)/\OD w w':=by
 obtain⟨k,n,s⟩:=v
 by_cases ce:k=0
 ·subst ce;go_enter func132,ntmps132
  go_wp2
  go_ret;exact⟨rfl,PO⟩
 by_cases bQ:k=1
 ·subst bQ;go_enter func132,ntmps132
  go_wp2
  go_ret;exact⟨rfl,PO⟩
 by_cases ds:k=2
 ·subst ds;have ay:Va.tru ⟨2,n,s⟩=(n != 0):=rfl;exact asf
 by_cases iA:k=3
 ·subst iA;have ay:Va.tru ⟨3,n,s⟩=(n != 0):=rfl;exact asf
 by_cases k4:k=4
 ·subst k4;have ay:Va.tru ⟨4,n,s⟩ = !s.toList.isEmpty:=by rw[adT];rfl
  exact asf
 have ay:Va.tru ⟨k,n,s⟩=true:=by unfold Va.tru;simp[ce,bQ,ds,iA,k4]
 exact asf
def Xm (es:OG)(w:Ov)(v:OG):Er->Prop
 | .no=>v=.nilIface
 | .stop=>v=es
 | .XU x=>∃ b,v=.iface 122 (OM b 0)/\w.heap[b]? = some (O1 #[Ol x.k,Ol x.n,OB x.s] 126)
 | .mis=>v=.iface 34 (Ol 7)
def Xm.later {es:OG}{w w':Ov}{v:OG}{e:Er}(h:Xm es w v e)(D:OD w w'):Xm es w' v e:=by
 cases e with
 | no=>exact h
 | stop=>exact h
 | mis=>exact h
 | XU x=>
  obtain⟨b,h1,U⟩:=h;exact⟨b,h1,by rw[D.block b (lt_of_heap U)];exact U⟩
def ama (es:OG)(n:Int)(az:¬ (n < -1000000000\/1000000000<n))(w:Ov):OE 314 #[Ol n] w fun e w'=>(∃ ev,e=OQ (.tuple #[vA (Ve n).1,ev])/\Xm es w' ev (Ve n).2)/\OD w w':=by
 have ay:Ve n=(Xh n,.no):=by unfold Ve;rw[if_neg az]
 rw[ay];have h1:¬ n < -1000000000:=fun h=>az (Or.inl h);have U:¬ n > 1000000000:=fun h=>az (Or.inr h);have ai:Hid (∀ W,OE 253 #[Ol n] W fun e w'=>e=OQ (vA (Xh n))/\OD W w'):=fun W=>aeO n W;clear az ay;go_enter func314,ntmps314;go_wp2_with fail;refine cm (Om ai _) ?_;rintro e w1 ⟨rfl,D⟩;obtain⟨dn,bR,c7,fw,nl⟩:=YK (D.mono O8);have l1:=fw 0;have l2:=fw 1;have l3:=fw 2;clear fw;go_wp2_with fail
 refine bodyPost_ret (v:=.tuple #[vA (Xh n),Qp]) (by simp[results,results314,go_sem,dn,bR,c7,Xh]) rfl ⟨⟨_,rfl,rfl⟩,?_⟩;exact below3 (PO.trans (D.mono O8)) O6 _ _ _
def ai2 (es:OG)(n:Int)(az:n < -1000000000\/1000000000<n)(w:Ov):OE 314 #[Ol n] w fun e w'=>(∃ ev,e=OQ (.tuple #[vA (Ve n).1,ev])/\Xm es w' ev (Ve n).2)/\OD w w':=by
 have ay:Ve n=(vU,bad UM):=by unfold Ve;rw[if_pos az]
 rw[ay];have ai:Hid (∀ W,OE 269 #[OB UM] W fun e w'=>(∃ b,e=OQ (.iface 122 (OM b 0))/\W.heap.size<=b/\w'.heap[b]? = some (O1 #[Ol 4,Ol 0,OB UM] 126))/\OD W w'):=fun W=>Xj UM W;clear ay;go_enter func314,ntmps314
 by_cases h1:n < -1000000000
 all_goals
  have U:n < -1000000000\/n > 1000000000:=az;have aw:¬ n < -1000000000->n > 1000000000:=fun h=>az.resolve_left h
  try have aL:=aw h1
  clear az U aw;go_wp2_with fail;refine cm (Om ai _) ?_;rintro e w1 ⟨⟨b,rfl,lf,hbk⟩,D⟩;obtain⟨dn,bR,c7,fw,nl⟩:=YK (D.mono O8);have l1:=fw 0;have l2:=fw 1;have l3:=fw 2;have f5:=hide hbk;have dU:=hide lf;clear fw hbk lf;go_wp2_with fail;refine bodyPost_ret (v:=.tuple #[vA vU,.iface 122 (OM b 0)]) (by simp[results,results314,go_sem,dn,bR,c7,vU]) rfl ⟨⟨_,rfl,b,rfl,?_⟩,?_⟩
  ·have cl:b≠w.heap.size:=by have:=Om dU;simp at this;omega
   rw[heap_setCell_other _ _ _ _ cl,heap_setCell_other _ _ _ _ cl,heap_setCell_other _ _ _ _ cl];exact Om f5
  ·exact below3 (PO.trans (D.mono O8)) O6 _ _ _
abbrev mR (σ:St)(aW aC aA aM:OG)(af:Nat):List OG:=[aW,Ol 0,PN,Ol (σ.steps:Int),aC,.map (some af),aA,aM,Ol (σ.calls:Int),Ol 0,Ol 0,Ol 1]
section
variable {H:Nat} {R:List OG} {w:Ov} {M:Mo}
include H R w M
def HP.cell {aA aC:OG}{os cf:List OG}(h:HP H R w M aA aC os cf)(j:Nat)(u:OG) :
  HP H (R.set j u) (w.setCell (Ot H (j+2)) u) M aA aC os cf/\Py [84] H w (w.setCell (Ot H (j+2)) u):=by
 have D:=h.blk;have f:Py [84] H w (w.setCell (Ot H (j+2)) u):=Py.setCell (Py.of QX (O0 (lt_of_block D))) D O8 O6 _;refine⟨⟨?_,h.ob.keep f Oz Oz,h.ro.keep f Oz Oz⟩,f⟩;rw[heap_setCell_same w H (j+2) _ 84 _ D]
 congr 2
 apply Array.ext';simp
def PS.cell (h:PS H R w M)(j:Nat)(u:OG):PS H (R.set j u) (w.setCell (Ot H (j+2)) u) M/\Py [84] H w (w.setCell (Ot H (j+2)) u):=by
 obtain⟨aA,aC,os,cf,h⟩:=h;exact⟨⟨aA,aC,os,cf,(h.cell j u).1⟩,(h.cell j u).2⟩
def PS.at_ (h:PS H R w M)(j:Nat)(u:OG)(aN:R[j]? = some u):w.cell? (Ot H (j+2))=some u/\w.frozen? (Ot H (j+2))=false:=by
 obtain⟨aA,aC,os,cf,h⟩:=h;have D:=h.blk;refine⟨?_,by simp[World.frozen?,D]⟩;simp[World.cell?,D,aN]
end
def apb {mb af:Nat}{σ:St}{aW aC aA aM es:OG}{w:Ov}(h:PS mb (mR σ aW aC aA aM af) w σ.M)(ac:σ.steps<=20000)(aq:w.cell? (Ot 1 0)=some es)(aS:1<mb) :
  OE 107 #[OM mb 0] w fun e w'=>e=OQ (if 20000<σ.steps+1 then es else Qp)/\PS mb (mR σ.step aW aC aA aM af) w' σ.M/\Py [84] mb w w':=by
 obtain⟨C',De⟩:=h.at_ 3 _ rfl;have c5:w.cell? (Ot mb 5)=some (Ol (σ.steps:Int)):=C';have H2:w.frozen? (Ot mb 5)=false:=De;clear C' De;have hl:=h.lt;have dQ:=hide (h.cell 3 (Ol ((σ.steps:Int)+1)));have bz:(mR σ aW aC aA aM af).set 3 (Ol ((σ.steps:Int)+1))=mR σ.step aW aC aA aM af:=rfl;rw[bz] at dQ;have bQ:(w.setCell (Ot mb 5) (Ol ((σ.steps:Int)+1))).cell? (Ot 1 0)=some es:=by
  rw[World.cell?_of_block (w:=w) (a:=(Ot 1 0)) (heap_setCell_other _ _ _ _ (show (1:Nat)≠mb by omega))];exact aq
 have eZ:1<w.heap.size:=Ou;clear h aq bz
 by_cases bI:20000<σ.steps+1
 ·rw[if_pos bI];have am:(σ.steps:Int)+1 > 20000:=Ou;clear bI
  generalize σ.steps=n at *
  go_enter func107,ntmps107;go_wp2;go_ret;exact⟨rfl,dQ.out⟩
 ·rw[if_neg bI];have am:¬ (σ.steps:Int)+1 > 20000:=Ou;clear bI
  generalize σ.steps=n at *
  go_enter func107,ntmps107;go_wp2;go_ret;exact⟨rfl,dQ.out⟩
def row_of {w w':Ov}{B e sz:Nat}{v:OG}{n:Nat}{xs:List OG}(h:w.ownsRow B e sz v n xs)(E:∀ g cj,v.ownBlock=some g->w.heap[g]? = some (O1 cj e)->w'.heap[g]? = some (O1 cj e)):w'.ownsRow B e sz v n xs:=by
 refine⟨h.1,?_⟩
 rcases h.2 with az|⟨g,cap,cj,av,D,hg,rest⟩
 ·exact Or.inl az
 ·exact Or.inr ⟨g,cap,cj,av,D,E g cj (by rw[av];rfl) hg,rest⟩
def Kp (w w':Ov):Prop:=∀ (b:Nat) (c:Array OG) (e:TypeId),w.heap[b]? = some (O1 c e)->(e=40\/e=22)->w'.heap[b]? = some (O1 c e)
mutual
def Qb.kp {I:Nat->Prop}{w w':Ov}(h:Kp w w'):∀ (t:Tr) (p:Nat),Qb I w t p->Qb I w' t p
 | .mk kd tx n ks,p,az=>by
  rw[Qb] at az ⊢;obtain⟨al,v,ps,D,aa,E⟩:=az;exact⟨al,v,ps,h _ _ _ D (Or.inl rfl),⟨row_of aa.1 fun g cj _ hg=>h _ _ _ hg (Or.inr rfl),aa.2⟩,OL.kp h ks ps E⟩
def OL.kp {I:Nat->Prop}{w w':Ov}(h:Kp w w'):∀ (ao:List Tr) (ps:List Nat),OL I w ao ps->OL I w' ao ps
 | [],ps,az=>by rw[OL] at az ⊢;exact az
 | t::ao,ps,az=>by
  rw[OL] at az ⊢;obtain⟨p,eQ,M,rfl,h1,U⟩:=az;exact⟨p,eQ,M,rfl,Qb.kp h t p h1,OL.kp h ao eQ U⟩
end
mutual
def RV.kp {I:Nat->Prop}{w w':Ov}(h:Kp w w'):∀ a:Ad,RV I w a->RV I w' a
 | .mk p kd tx n ks,ax=>by
  rw[RV] at ax ⊢;obtain⟨az,al,⟨v,D,aa⟩,E⟩:=ax;exact⟨Qb.kp h _ _ az,al,⟨v,h _ _ _ D (Or.inl rfl),row_of aa.1 fun g cj _ hg=>h _ _ _ hg (Or.inr rfl),aa.2⟩,Q5.kp h ks E⟩
def Q5.kp {I:Nat->Prop}{w w':Ov}(h:Kp w w'):∀ es:List Ad,Q5 I w es->Q5 I w' es
 | [],_=>by rw[Q5];trivial
 | a::es,ax=>by
  rw[Q5] at ax ⊢;exact⟨RV.kp h a ax.1,Q5.kp h es ax.2⟩
end
def Tm:List TypeId:=Th++[9,54,3,211]
structure O5 (L:Option Nat)(B:Nat)(w w':Ov):Prop where
 below:Below B w w'
 rest:∀ (b:Nat) c (e:TypeId),w.heap[b]? = some (O1 c e)->e ∉ Tm->some b≠L->w'.heap[b]? = some (O1 c e)
section
variable {L:Option Nat} {B:Nat} {w w' w2:Ov}
def O5.of (D:OD w w')(a8:B<=w.heap.size):O5 L B w w':=⟨D.mono a8,fun b _ _ h _ _=>(D.block b (lt_of_block h)).trans h⟩
def O5.trans (h:O5 L B w w')(k:O5 L B w' w2):O5 L B w w2:=⟨h.below.trans k.below,fun x y e bD q r=>k.rest x y e (h.rest x y e bD q r) q r⟩
def O5.up (h:O5 none B w w'):O5 L B w w':=⟨h.below,fun x y e bD q _=>h.rest x y e bD q O8⟩
def O5.ofT (h:Py Th B w w'):O5 L B w w':=⟨h.below,fun x y e bD q _=>h.rest x y e bD (fun h=>q (List.mem_append_left _ h))⟩
def O5.down {b:Nat}(h:O5 (some b) B w w')(D:w.heap.size<=b):O5 none B w w':=⟨h.below,fun x y e bD q _=>h.rest x y e bD q (fun e=>by cases e;exact absurd (lt_of_block bD) Ou)⟩
def O5.kp (h:O5 L B w w')(dr:∀ b,L=some b->∃ c,w.heap[b]? = some (O1 c 65)):Kp w w':=fun b c e D aq=>h.rest b c e D (by rcases aq with rfl|rfl <;> decide) (fun hl=>by
 obtain⟨en,aj⟩:=dr b hl.symm;exact QK D aj (by rcases aq with rfl|rfl <;> decide) rfl)
def Kp.of (D:OD w w'):Kp w w':=fun b _ _ h _=>(D.block b (lt_of_block h)).trans h
def Py.kp (h:Py Th B w w'):Kp w w':=fun b c e D aq=>h.rest b c e D (by rcases aq with rfl|rfl <;> decide)
end
structure OY (O:List Nat)(w:Ov)(a:Ad)(d:Nd):Prop where
 at_:RV (fun _=>True) w a
 tr:a.tr=d.2
 no:match d.1 with
  | some k=>∃ i8 post,O=i8++a.Vb++post/\i8.length=k
  | none=>∀ q ∈ a.Vb,q ∉ O
def OY.kp {O:List Nat}{w w':Ov}{a:Ad}{d:Nd}(h:OY O w a d)(E:Kp w w'):OY O w' a d:=⟨RV.kp E _ h.at_,h.tr,h.no⟩
def ag2 {O:List Nat}{w:Ov}:∀ (es:List Ad) (no:Option Nat) (i:Nat) (k:Ad),Q5 (fun _=>True) w es->es[i]? = some k ->
  (match no with
   | some n=>∃ i8 post,O=i8++Ad.TQ es++post/\i8.length=n
   | none=>∀ q ∈ Ad.TQ es,q ∉ O)->∃ fX,(YL no (Ad.trs es))[i]? = some fX/\OY O w k fX
 | [],_,i,k,_,h,_=>by simp at h
 | e::es,no,0,k,ax,h,az=>by
  simp at h;subst h;rw[Q5] at ax;refine⟨(no,e.tr),by rw[Ad.trs,YL];rfl,ax.1,rfl,?_⟩
  cases no with
  | none=>exact fun q ag=>az q (by rw[Ad.TQ];exact List.mem_append_left _ ag)
  | some n=>
   obtain⟨i8,post,h1,U⟩:=az;exact⟨i8,Ad.TQ es++post,by rw[h1,Ad.TQ];simp,U⟩
 | e::es,no,i+1,k,ax,h,az=>by
  rw[Q5] at ax;obtain⟨fX,h1,U⟩:=ag2 es (no.map (· + e.tr.count)) i k ax.2 (by simpa using h) (by
   cases no with
   | none=>exact fun q ag=>az q (by rw[Ad.TQ];exact List.mem_append_right _ ag)
   | some n=>
    obtain⟨i8,post,h1,U⟩:=az;exact⟨i8++e.Vb,post,by rw[h1,Ad.TQ];simp,by rw[List.length_append,U,Ad.aj6,Ad.ah8]⟩)
  exact⟨fX,by rw[Ad.trs,YL];simpa using h1,U⟩
def OY.kid {O:List Nat}{w:Ov}{a:Ad}{d:Nd}(h:OY O w a d){i:Nat}{k:Ad}(E:a.ks[i]? = some k):∃ fX,(P9 d)[i]? = some fX/\OY O w k fX:=by
 obtain⟨h1,U,aw⟩:=h;obtain⟨no,t⟩:=d
 cases a with
 | mk p kd tx n ks=>
  rw[RV] at h1;have e:t=.mk kd tx n (Ad.trs ks):=by rw[Ad.tr] at U;exact U.symm
  subst e;refine ag2 ks (no.map (· + 1)) i k h1.2.2.2 E ?_
  cases no with
  | none=>exact fun q ag=>aw q (by rw[Ad.Vb];exact List.mem_cons_of_mem _ ag)
  | some m=>
   obtain⟨i8,post,aL,bE⟩:=aw;exact⟨i8++[p],post,by rw[aL,Ad.Vb];simp,by simp[bE]⟩
def ag3:∀ (no:Option Nat) (ao:List Tr),(YL no ao).length=ao.length
 | _,[]=>rfl
 | no,t::ao=>by rw[YL,List.length_cons,ag3,List.length_cons]
def Si (d:Nd):(P9 d).length=d.2.kids.length:=ag3 _ _
def OY.ks {O:List Nat}{w:Ov}{a:Ad}{d:Nd}(h:OY O w a d):a.ks.length=d.2.kids.length:=by
 rw[<-h.tr,a.aj2.2.2,List.length_map]
def acs:∀ (no:Option Nat) (ao:List Tr),(YL no ao).map (·.2)=ao
 | _,[]=>rfl
 | no,t::ao=>by rw[YL,List.map_cons,acs]
section
variable {O:List Nat} {w:Ov} {a:Ad} {d:Nd} (h:OY O w a d)
include O w a d h
theorem OY.aBV {i:Nat}(am:i<d.2.kids.length):∃ k,a.ks[i]? = some k/\(P9 d)[i]? = some (Oy d i)/\OY O w k (Oy d i):=by
 obtain⟨k,E⟩:∃ k,a.ks[i]? = some k:=⟨_,List.getElem?_eq_getElem (by rw[h.ks];exact am)⟩
 obtain⟨fX,h1,U⟩:=h.kid E;have e:Oy d i=fX:=by unfold Oy;rw[List.getD_eq_getElem?_getD,h1];rfl
 rw[e];exact⟨k,E,h1,U⟩
theorem OY.cells:a.p<w.heap.size/\w.cell? (Ot a.p 0)=some (Ol d.2.kd)/\w.cell? (Ot a.p 1)=some (OB d.2.tx)/\w.cell? (Ot a.p 2)=some (Ol d.2.n) /\
  ∃ v,w.cell? (Ot a.p 3)=some v/\anh (fun _=>True) w v (a.ks.map Ad.p):=by
 obtain⟨h1,U,_⟩:=h;rw[<-U]
 cases a with
 | mk p kd tx n ks=>
  rw[RV] at h1;obtain⟨_,al,⟨v,D,aa⟩,_⟩:=h1;obtain⟨c0,c1,c2,c3,_⟩:=node_cells D;rw[Ad.tr];exact⟨lt_of_heap D,c0,c1,c2,v,c3,aa⟩
end
def amn {w:Ov}{v:OG}{ps:List Nat}(h:anh (fun _=>True) w v ps){i q:Nat}(ag:ps[i]? = some q):∃ g cap,v=.slice (some (Ot g 0)) ps.length cap/\g<w.heap.size/\w.cell? (Ot g i)=some (Oo q):=by
 have am:i<ps.length:=(List.getElem?_eq_some_iff.1 ag).1;obtain⟨g,cap,rfl,_,_⟩:=h.1.form Ou;refine⟨g,cap,rfl,(h.1.lt g rfl).2,?_⟩;rw[h.1.cellAt i Ou];simp[ag]
def OY.Yj {O:List Nat}{w:Ov}{a:Ad}{d:Nd}(h:OY O w a d){i:Nat}(am:i<d.2.kids.length) :
  ∃ k g cap,w.cell? (Ot a.p 3)=some (.slice (some (Ot g 0)) d.2.kids.length cap)/\w.cell? (Ot g i)=some (Oo k.p)/\OY O w k (Oy d i)/\(P9 d)[i]? = some (Oy d i):=by
 obtain⟨k,E,h1,U⟩:=h.aBV am;obtain⟨_,_,_,_,v,c3,aa⟩:=h.cells;obtain⟨g,cap,rfl,_,aj⟩:=amn aa (i:=i) (q:=k.p) (by simp[E]);rw[List.length_map,h.ks] at c3;exact⟨k,g,cap,c3,aj,U,h1⟩
abbrev sn2 (e:Int × Int):List OG:=[Ol e.1,Ol e.2]
abbrev fn3 (e:Ad × Fu):List OG:=[Oo e.1.p,Ol e.2.scope,OC e.2.strict]
structure Bs (w0:Ov)(mb af:Nat)(O:List Nat)(es:OG):Prop where
 sz:w0.heap.size=mb
 nm:w0.heap[af]? = some (.map (Xn (WC O)) O.length)
 an:∀ q ∈ O,Cl w0 q
 nd:O.Nodup
 es:w0.cell? (Ot 1 0)=some es
structure Mx (w0:Ov)(mb af:Nat)(O:List Nat)(aW aC aA aM:OG)(w:Ov)(σ:St):Prop where
 bw:Below mb w0 w
 hh:PS mb (mR σ aW aC aA aM af) w σ.M
 lg:w.ownsRow mb 9 1 aW σ.log.length (σ.log.map Value.string)
 se:w.ownsRow mb 54 2 aC σ.seen.length (σ.seen.flatMap sn2)
 ow:w.ownsRow mb 3 1 aA σ.QF.length (σ.QF.map (Value.int .i64))
 fu:∃ d6:List Ad,d6.length=σ.Rq.length/\w.ownsRow mb 211 3 aM σ.Rq.length ((d6.zip σ.Rq).flatMap fn3)/\∀ (i:Nat) a f,d6[i]? = some a->σ.Rq[i]? = some f->OY O w a f.d
section
variable {w0:Ov} {mb af:Nat} {O:List Nat} {es aW aC aA aM:OG} {w w':Ov} {σ:St}
section
variable (h:Mx w0 mb af O aW aC aA aM w σ)
include h
theorem Mx.lt:mb<w.heap.size:=h.hh.lt
theorem Mx.later (D:OD w w'):Mx w0 mb af O aW aC aA aM w' σ:=aB1
end
structure Q9 (B:Nat)(o f gU eH:OG)(w w':Ov):Prop where
 below:Below B w w'
 rest:∀ (b:Nat) c (e:TypeId),w.heap[b]? = some (O1 c e)->e ∉ Th->o.ownBlock≠some b->f.ownBlock≠some b->w'.heap[b]? = some (O1 c e)
 oo:∀ k,gU.ownBlock=some k->o.ownBlock=some k\/w.heap.size<=k
 ff:∀ k,eH.ownBlock=some k->f.ownBlock=some k\/w.heap.size<=k
def Q9.trans {B:Nat}{o f bH d5 i6 dX:OG}{w w1 w2:Ov}(h:Q9 B o f bH d5 w w1)(k:Q9 B bH d5 i6 dX w1 w2):Q9 B o f i6 dX w w2:=by
 refine⟨h.below.trans k.below,fun b c e D aq aR aH=>?_,fun q ag=>?_,fun q ag=>?_⟩
 ·refine k.rest b c e (h.rest b c e D aq aR aH) aq (fun e=>?_) (fun e=>?_)
  ·rcases h.oo b e with e|e
   ·exact aR e
   ·exact absurd (lt_of_block D) Ou
  ·rcases h.ff b e with e|e
   ·exact aH e
   ·exact absurd (lt_of_block D) Ou
 ·rcases k.oo q ag with e|e
  ·exact h.oo q e
  ·exact .inr (Nat.le_trans h.below.size e)
 ·rcases k.ff q ag with e|e
  ·exact h.ff q e
  ·exact .inr (Nat.le_trans h.below.size e)
def Q9.of {B:Nat}{o f:OG}{w w':Ov}(D:OD w w')(a8:B<=w.heap.size):Q9 B o f o f w w':=⟨D.mono a8,fun b _ _ h _ _ _=>(D.block b (lt_of_block h)).trans h,fun _ h=>.inl h,fun _ h=>.inl h⟩
def Q9.ofT {B:Nat}{o f:OG}{w w':Ov}(h:Py Th B w w'):Q9 B o f o f w w':=⟨h.below,fun b c e D aq _ _=>h.rest b c e D aq,fun _ h=>.inl h,fun _ h=>.inl h⟩
def Q9.frL {gU eH:OG}{L:Option Nat}(h:Q9 mb aA aM gU eH w w')(ae:Mx w0 mb af O aW aC aA aM w σ):O5 L mb w w':=by
 obtain⟨d6,_,U,_⟩:=ae.fu;refine⟨h.below,fun b c e D aq _=>h.rest b c e D (fun q=>aq (List.mem_append_left _ q)) (fun q=>?_) (fun q=>?_)⟩
 ·obtain⟨en,aj⟩:=Qc ae.ow q;exact QK D aj (by rintro rfl;exact aq Oz) rfl
 ·obtain⟨en,aj⟩:=Qc U q;exact QK D aj (by rintro rfl;exact aq Oz) rfl
def Q9.kp {gU eH:OG}(h:Q9 mb aA aM gU eH w w')(ae:Mx w0 mb af O aW aC aA aM w σ):Kp w w':=(h.frL (L:=none) ae).kp (fun b e=>by cases e)
def Mx.heap (h:Mx w0 mb af O aW aC aA aM w σ){M:Mo}(hh:PS mb (mR σ aW aC aA aM af) w' M)(aH:Py Th mb w w'):Mx w0 mb af O aW aC aA aM w' { σ with M:=M }:=aB2
end
def ahd (m k:Nat)(l:List (Nat × OG))(p:Nat)(W:Ov)(aS:W.heap[m]? = some (.map (Xn l) k))(al:Cl W p)(hl:∀ e ∈ l,Cl W e.1) :
  (Instr.lookup 80 (.map (some m)) (Oo p) true).run prog W=.ok (.tuple #[((l.find? (fun e=>decide (p=e.1))).map (·.2)).getD (Ol 0),OC (l.find? (fun e=>decide (p=e.1))).isSome]) W:=by
 obtain⟨o,aw,U⟩:=akz al l hl;have rb:=underlying22;have Ag:=underlying80;have aI:(zeroValue 3).run prog W=.ok (Ol 0) W:=by kernel_rfl
 unfold Instr.lookup;rw[Sem.run_bind,run_underlying Ag W];have ej:∀ b,(Instr.checkKey b 10000 22 (Oo p)).run prog W=.ok () W:=by
  intro b;rw[Instr.checkKey,Sem.run_bind,run_underlying rb W];rfl
 have hg:(getObj m).run prog W=.ok (.map (Xn l) k) W:=by simp[getObj,Sem.run,aS]
 simp only[Result.andThen_ok,Sem.run_bind,hg,Sem.run_pure,ej,aw]
 cases o with
 | none=>
  cases aH:l.find? (fun e=>decide (p=e.1)) with
  | none=>simp[aI]
  | some x=>rw[aH] at U;simp at U
 | some y=>
  cases aH:l.find? (fun e=>decide (p=e.1)) with
  | none=>rw[aH] at U;simp at U
  | some x=>rw[aH] at U;simp at U;simp[U]
def ahe (p:Nat):∀ (i8 post:List Nat) (n:Nat),p ∉ i8->(((i8++p::post).zipIdx n).map fun e=>(e.1,Value.int .i64 (e.2:Int))).find? (fun e=>decide (p=e.1))=some (p,Ol ((n+i8.length:Nat):Int))
 | [],post,n,_=>by simp
 | x::i8,post,n,h=>by
  have ae:p≠x:=fun e=>h (by simp[e]);rw[List.cons_append,List.zipIdx_cons,List.map_cons,List.find?_cons];simp only[decide_eq_false ae];rw[ahe p i8 post (n+1) (fun e=>h (List.mem_cons_of_mem _ e)),List.length_cons,show n+1+i8.length=n+(i8.length+1) by omega]
def noV (d:Nd):Int:=match d.1 with
 | some k=>k
 | none=>0
def OY.find {O:List Nat}{w:Ov}{a:Ad}{d:Nd}(h:OY O w a d)(hd:O.Nodup) :
  (((WC O).find? (fun e=>decide (a.p=e.1))).map (·.2)).getD (Ol 0)=Ol (noV d)/\((WC O).find? (fun e=>decide (a.p=e.1))).isSome=d.1.isSome:=by
 obtain⟨_,_,aw⟩:=h;obtain⟨no,t⟩:=d
 cases no with
 | none=>
  rw[ad2 (aw a.p (by rw[abv];simp))]
  exact⟨rfl,rfl⟩
 | some k=>
  obtain⟨i8,post,rfl,E⟩:=aw;have az:a.p ∉ i8:=by
   rw[abv,List.append_assoc,List.nodup_append] at hd;exact fun aS=>hd.2.2 _ aS _ O8 rfl
  have e:(WC (i8++a.Vb++post)).find? (fun e=>decide (a.p=e.1))=some (a.p,Ol (k:Int)):=by
   unfold WC;rw[abv,List.append_assoc,List.cons_append,ahe a.p i8 _ 0 az,Nat.zero_add,E]
  rw[e];exact⟨rfl,rfl⟩
section
variable {w0:Ov} {mb af:Nat} {O:List Nat} {es aW aC aA aM:OG} {w w':Ov} {σ:St}
def PS.keep {H B:Nat}{R:List OG}{M:Mo}{T:List TypeId}(h:PS H R w M)(f:Py T B w w')(h1:84 ∉ T)(U:185 ∉ T)(aw:207 ∉ T)(aL:198 ∉ T)(bE:262 ∉ T):PS H R w' M:=by
 obtain⟨o,s,os,cf,h⟩:=h;exact⟨o,s,os,cf,f.rest _ _ _ h.blk h1,h.ob.keep f U aw,h.ro.keep f aL bE⟩
def afe (a8:Bs w0 mb af O es)(ae:Below mb w0 w){a:Ad}{d:Nd}(hd:OY O w a d) :
  (Instr.lookup 80 (.map (some af)) (Oo a.p) true).run prog w=.ok (.tuple #[Ol (noV d),OC d.1.isSome]) w:=by
 have aS:w.heap[af]? = some (.map (Xn (WC O)) O.length):=(ae.block af (by rw[<-a8.sz];exact lt_of_heap a8.nm)).trans a8.nm
 have h1:=ahd af _ (WC O) a.p w aS hd.at_.cl (fun e aq=>by
  obtain⟨cs,t,aj⟩:=a8.an _ (acy aq);exact⟨cs,t,(ae.block _ (by rw[<-a8.sz];exact lt_of_heap aj)).trans aj⟩)
 rw[(hd.find a8.nd).1,(hd.find a8.nd).2] at h1;exact h1
def YD (a8:Bs w0 mb af O es)(ae:Mx w0 mb af O aW aC aA aM w σ){a:Ad}{d:Nd}(hd:OY O w a d) :
  OE 51 #[Oo mb,Oo a.p] w fun e w'=>e=OQ (Ol (own d))/\w'=w:=by
 have hl:=afe a8 ae.bw hd;obtain⟨xG,z7⟩:=ae.hh.at_ 5 _ rfl;have bG:=ae.lt;obtain⟨p,al⟩:=xE a.p;rw[<-al] at hl ⊢;obtain⟨no,t⟩:=d;clear al
 cases no with
 | none=>
  have ay:own (none,t) = -3:=rfl;exact aCB
 | some k=>
  have ay:own (some k,t)=(k:Int):=rfl;exact aCC
def Mx.akl (h:Mx w0 mb af O aW aC aA aM w σ)(x:Int){ap:Ov}{VA:OG}(hg:w.grownBy ap aA.ownBlock)(aR:ap.ownsRow mb 3 1 VA (σ.QF.length+1) (σ.QF.map (Value.int .i64)++[Ol x]))
  (ag:∀ q,VA.ownBlock=some q->aA.ownBlock=some q\/w.heap.size<=q) :
  Mx w0 mb af O aW aC VA aM (ap.setCell (Ot mb 8) VA) { σ with QF:=σ.QF++[x] }/\Q9 mb aA aM VA aM w (ap.setCell (Ot mb 8) VA):=aCD
def ajj (w:Ov)(q:Int)(H:Nat)(h:w.heap.size=H):∀ j u,[Value.int .i64 q][j]? = some u->(w.alloc (.cells #[Ol q] 3)).cell? (((Ot H 0):Addr).add j)=some u:=by
 intro j u aN;subst h
 cases j with
 | zero=>
  simp at aN;subst aN;simp[Addr.add]
 | succ j=>simp at aN
def apx (q:Int):∀ u ∈ [Value.int .i64 q],u.oneCell'=true:=by
 intro u aT;rw[List.mem_singleton.1 aT];rfl
def info3:(prog.info? 3).map (fun i=>(i.zero,i.size,i.bytes))=some (some (Ol 0),1,8):=by kernel_rfl
def open_any (ae:Mx w0 mb af O aW aC aA aM w σ)(u o x:Int)(hl:σ.QF.length<=1000000000)
  (iZ:∀ X R,PS mb R X σ.M->OE 105 #[Oo mb,Ol u,Ol o] X fun e w'=>e=OQ (Ol (σ.M.OI.length:Int))/\PS mb R w' (σ.M.scope u o)/\Py Th mb X w') :
  OE 50 #[Oo mb,Ol u,Ol o,Ol x] w fun e w'=>e=OQ (Ol σ.top)/\∃ VA,Mx w0 mb af O aW aC VA aM w' (σ.opn u o x)/\Q9 mb aA aM VA aM w w':=by
 have z:=Oq (∀{G}(h:G:=by
 show OE 50 #[Oo mb,Ol u,Ol o,Ol x] w fun e w'=>e=OQ (Ol (σ.M.OI.length:Int))/\∃ VA,Mx w0 mb af O aW aC VA aM w' (σ.opn u o x)/\Q9 mb (.slice aB n iS) aM VA aM w w'
 exact aCE),G);exact aCF
abbrev PU (p:Pl)(aB:Option Addr):OG:=.agg #[Ol p.scope,Ol p.declares,OC p.strict,.pointer aB]
abbrev plO (p:Pl)(aB:Option Addr):Obj:=O1 #[Ol p.scope,Ol p.declares,OC p.strict,.pointer aB] 73
def cells3 {w:Ov}{b:Nat}{x y bD:OG}{t:TypeId}(h:w.heap[b]? = some (O1 #[x,y,bD] t)):w.cell? (Ot b 0)=some x/\w.cell? (Ot b 1)=some y/\w.cell? (Ot b 2)=some bD/\(∀ j,w.frozen? (Ot b j)=false)/\b<w.heap.size:=by
 refine⟨?_,?_,?_,fun j=>?_,lt_of_heap h⟩
 ·rw[cell_of h];rfl
 ·rw[cell_of h];rfl
 ·rw[cell_of h];rfl
 ·simp[World.frozen?,h]
def cells4 {w:Ov}{b:Nat}{x y bD u:OG}{t:TypeId}(h:w.heap[b]? = some (O1 #[x,y,bD,u] t)):w.cell? (Ot b 0)=some x/\w.cell? (Ot b 1)=some y/\w.cell? (Ot b 2)=some bD/\w.cell? (Ot b 3)=some u/\(∀ j,w.frozen? (Ot b j)=false)/\b<w.heap.size:=by
 refine⟨?_,?_,?_,?_,fun j=>?_,lt_of_heap h⟩
 ·rw[cell_of h];rfl
 ·rw[cell_of h];rfl
 ·rw[cell_of h];rfl
 ·rw[cell_of h];rfl
 ·simp[World.frozen?,h]
def stays {w X:Ov}{b:Nat}{o:Obj}(D:OD w X)(h:w.heap[b]? = some o):X.heap[b]? = some o:=(D.block b (lt_of_heap h)).trans h
def alloc_old {w:Ov}{b:Nat}{o gU:Obj}(h:w.heap[b]? = some o):(w.alloc gU).heap[b]? = some o:=by rw[Below.heap_alloc w gU b (lt_of_heap h)];exact h
def ZJ {w:Ov}{b:Nat}{x y bD:OG}{t:TypeId}(h:w.heap[b]? = some (O1 #[x,y,bD] t))(x' jB jl:OG) :
  (((w.setCell (Ot b 0) x').setCell (Ot b 1) jB).setCell (Ot b 2) jl).heap[b]? = some (O1 #[x',jB,jl] t):=by
 have z:=Oq (∀{G}(h:G:=by
 exact aw),G);exact as6
def Mx.YC {T:List TypeId}(h:Mx w0 mb af O aW aC aA aM w σ)(f:Py T mb w w')(dY:∀ e ∈ T,e ∉ Tm/\e≠40/\e≠22):Mx w0 mb af O aW aC aA aM w' σ:=by
 have az:∀ e,e ∈ Tm->e ∉ T:=fun e aq h=>(dY e h).1 aq;obtain⟨d6,h1,U,aw⟩:=h.fu;exact⟨h.bw.trans f.below,h.hh.keep f (az _ Oz) (az _ Oz) (az _ Oz) (az _ Oz) (az _ Oz),OW h.lg f (az _ Oz),OW h.se f (az _ Oz),OW h.ow f (az _ Oz),d6,h1,OW U f (az _ Oz),fun i a eH ax gj=>(aw i a eH ax gj).kp (fun b c e D aq=>f.rest b c e D (fun q=>by rcases aq with rfl|rfl;exact(dY _ q).2.1 rfl;exact(dY _ q).2.2 rfl))⟩
def RJ {b:Nat}{x y bD:OG}{t:TypeId}(h:w.heap[b]? = some (O1 #[x,y,bD] t))(D:mb<=b)(x' jB jl:OG):Py [t] mb w (((w.setCell (Ot b 0) x').setCell (Ot b 1) jB).setCell (Ot b 2) jl):=by
 have h1:=heap_setCell_same w b 0 _ t x' h;have U:=heap_setCell_same _ b 1 _ t jB h1;exact Py.setCell (Py.setCell (Py.setCell (Py.of QX (Nat.le_trans D (O0 (lt_of_heap h)))) h O8 D _) h1 O8 D _) U O8 D _
def Q9.new {o f gU eH:OG}{w2:Ov}{T:List TypeId}(h:Q9 mb o f gU eH w w')(k:Py T mb w' w2)(E:∀ b,b<w.heap.size->w2.heap[b]? = w'.heap[b]?):Q9 mb o f gU eH w w2:=
 ⟨h.below.trans k.below,fun b c e D aq aR aH=>by rw[E b (lt_of_heap D)];exact h.rest b c e D aq aR aH,h.oo,h.ff⟩
def Ua {b:Nat}(D:w.heap.size<=b)(x' jB jl:OG)(j:Nat)(aN:j<w.heap.size):(((w'.setCell (Ot b 0) x').setCell (Ot b 1) jB).setCell (Ot b 2) jl).heap[j]? = w'.heap[j]?:=by
 have cl:j≠b:=Ou;rw[heap_setCell_other _ _ _ _ cl,heap_setCell_other _ _ _ _ cl,heap_setCell_other _ _ _ _ cl]
def Mx.ava (h:Mx w0 mb af O aW aC aA aM w σ){a:Ad}{f:Fu}(hd:OY O w a f.d){ap:Ov}{WI:OG}(hg:w.grownBy ap aM.ownBlock)
  {d6:List Ad} (h1:d6.length=σ.Rq.length) (U:w.ownsRow mb 211 3 aM σ.Rq.length ((d6.zip σ.Rq).flatMap fn3)) (aw:∀ (i:Nat) a f,d6[i]? = some a->σ.Rq[i]? = some f->OY O w a f.d)
  (aR:ap.ownsRow mb 211 3 WI (σ.Rq.length+1) ((d6.zip σ.Rq).flatMap fn3++fn3 (a,f)))
  (ag:∀ q,WI.ownBlock=some q->aM.ownBlock=some q\/w.heap.size<=q) :
  Mx w0 mb af O aW aC aA WI (ap.setCell (Ot mb 9) WI) { σ with Rq:=σ.Rq++[f] }/\Q9 mb aA aM aA WI w (ap.setCell (Ot mb 9) WI):=by
 have d5:Py [211] mb w ap:=Py.grown hg (O0 h.lt) fun k E=>by
  obtain⟨c,aj⟩:=Qc U E;exact⟨(U.lt k E).1,c,211,aj,by simp⟩
 have kU:=h.hh.keep d5 Oz Oz Oz Oz Oz;obtain⟨lT,dX⟩:=kU.cell 7 WI;have g1:Py [211,84] mb w (ap.setCell (Ot mb 9) WI):=(d5.mono Oz O6).trans (dX.mono Oz O6);have dc:Kp w (ap.setCell (Ot mb 9) WI):=fun b c e D aq=>g1.rest b c e D (by rcases aq with rfl|rfl <;> decide);refine⟨⟨h.bw.trans g1.below,lT,OW h.lg g1 Oz,OW h.se g1 Oz,OW h.ow g1 Oz,d6++[a],by simp[h1],?_,fun i mi eH ax gj=>?_⟩,⟨g1.below,fun b c e D aq _ gj=>?_,fun _ h=>.inl h,ag⟩⟩
 ·have bE:=OW aR dX Oz
  show World.ownsRow _ _ _ _ _ (σ.Rq++[f]).length (((d6++[a]).zip (σ.Rq++[f])).flatMap fn3)
  rw[List.length_append,List.zip_append h1,List.flatMap_append];simpa using bE
 ·rcases Nat.lt_or_ge i d6.length with am|am
  ·rw[List.getElem?_append_left am] at ax;have cS:(σ.Rq++[f])[i]? = some eH:=gj;rw[List.getElem?_append_left Ou] at cS;exact(aw i mi eH ax cS).kp dc
  ·rw[List.getElem?_append_right am] at ax;have jM:=(List.getElem?_eq_some_iff.1 ax).1;simp at jM;have I3:i - d6.length=0:=Ou;have cS:(σ.Rq++[f])[i]? = some eH:=gj;rw[List.getElem?_append_right Ou,show i - σ.Rq.length=0 by omega] at cS;rw[I3] at ax;simp at ax cS;subst ax cS;exact hd.kp dc
 ·have bX:ap.heap[b]? = some (O1 c e):=(hg.block b (lt_of_block D) (fun e=>gj e.symm)).trans D;exact dX.rest b c e bX (fun q=>aq (by rw[List.mem_singleton.1 q];decide))
def as7:(prog.info? 211).map (fun i=>(i.zero,i.size,i.bytes))=some (some (.agg #[Ri,Ol 0,OC false]),3,24):=by kernel_rfl
def ahg (w:Ov)(H:Nat)(fs:w.heap.size=H)(q:Nat)(s:Int)(b:Bool)(j:Nat)(u:OG)(h:([Oo q,Ol s,OC b]:List OG)[j]? = some u) :
  (w.alloc (.cells #[Oo q,Ol s,OC b] 211)).cell? (((Ot H 0):Addr).add j)=some u:=by
 subst fs
 rcases j with _|_|_|j <;> simp at h
 all_goals subst h;simp[Addr.add]
def apJ (q:Nat)(s:Int)(b:Bool):∀ u ∈ ([Oo q,Ol s,OC b]:List OG),u.oneCell'=true:=by
 intro u aT;simp at aT
 rcases aT with rfl|rfl|rfl <;> rfl
section
variable (ae:Mx w0 mb af O aW aC aA aM w σ) {a:Ad} {d:Nd} (hd:OY O w a d) (E:d.2.kids.length=2) (hl:σ.Rq.length<=1000000000) {K:Nat} (ac:σ.M.Small K) (A:K<=1000000000) (au aG:Int) (aB:Option Addr) (kZ:Bool) (cJ:kZ=Pg (Oy d 1).2)
include ae a d hd E hl K ac A au aG aB kZ cJ
theorem ajp :
  OE 60 #[Oo mb,Oo a.p,.agg #[Ol au,Ol aG,OC true,.pointer aB]] w fun e w'=>e=OQ (vA (Um σ.M.objs.length))/\∃ WI,Mx w0 mb af O aW aC aA WI w' { σ with Rq:=σ.Rq++[⟨d,au,true⟩],M:=σ.M.Pz (3+σ.Rq.length) }/\Q9 mb aA aM aA WI w w':=by
 have z:=Oq (∀{G}(h:G:=by
 obtain⟨w2,da⟩:=xE ((w.alloc (.cells #[Ol au,Ol aG,OC true,.pointer aB] 73)).alloc (.cells #[Ol 0,Ol 0,PN] 65));have z:=Oq (∀{G}(h:G:=by
 have be:w2.heap[bf]? = some (O1 #[Ol au,Ol aG,OC true,.pointer aB] 73):=by
  rw[da,bV];exact alloc_old (OA _ _)
 have hr2:w2.heap[aU]? = some (O1 #[Ol 0,Ol 0,PN] 65):=by
  rw[da,b0,show w.heap.size+1=(w.alloc (.cells #[Ol au,Ol aG,OC true,.pointer aB] 73)).heap.size by simp];exact OA _ _
 have b8:=hide (cells4 be);have bj:=hide hr2;have bu:=hide da;have cq:=aF;have z:=Oq (∀{G}(h:G:=by
 refine aod (G:=?GG) (fun dJ=>?ways) ?rest
 case ways=>
  have z:=Oq (∀{G}(h:G:=by
  refine uh 5 (OC true) (ab) ?_;have z:=Oq (∀{G}(h:G:=by
  refine uh 11 undef (ab) ?_ (hy:=Or.inr ⟨by kernel_rfl,rfl⟩);refine uh 12 undef (ab) ?_ (hy:=Or.inr ⟨by kernel_rfl,rfl⟩);refine uh 13 (OC true) (ab) ?_;refine uh 14 (.agg #[OM q 0,Ol au,OC true]) (ab) ?_;refine P5 15 fun K A=>?_;go_simp;refine A.out _ _ (fun _=>PO.drew) ?_;clear A K;refine P5 16 fun K A=>?_;go_simp;refine ko A ?_;clear A K;refine Sl ?_ _;go_simp;exact dJ),G);exact awC),G);exact aC1
 obtain⟨ap,ix⟩:=xE ((w2.alloc (.cells #[Oo q,Ol au,OC true] 211)).drew);rw[<-ix];have cS:ap.heap[w2.heap.size]? = some (O1 #[Oo q,Ol au,OC true] 211):=by
  rw[ix];exact OA w2 _
 have br:OD w2 ap:=by
  rw[ix];exact PO.drew
 obtain⟨q8,oQ⟩:=xE w2.heap.size;rw[<-oQ] at cS ⊢;have hbw3:OD w ap:=cq.trans (br.mono cq.size);have fc:=dQ.later hbw3;obtain⟨mj,su⟩:=fc.hh.at_ 7 _ rfl;obtain⟨z8,AH,gb,AI⟩:=fc.fu;obtain⟨yC,KI,n5⟩:=OX gb;have cQ:=hide (cells3 cS);have dp:=hide (stays br bj.out);have lI:=(d4.kp (Kp.of hbw3));rw[<-dB.out] at n5;subst n5;have rS:=hide mj;have fD:mb<ap.heap.size:=by have:=br.size;omega
 have fI:q8<ap.heap.size:=lt_of_heap cS;clear cS br mj su gb ix oQ cq bu AH AI z8 eU di gn;go_wp2_with fail;refine TI 7 fun ab=>?_;refine up 0 mb 0 ab ?_;refine up 1 mb 0 ab ?_;refine up 2 mb 0 ab ?_;refine up 3 mb 9 ab ?_;refine uk 4 rS.out ab ?_;refine uk3 5 cQ.out ab ?_;refine P5 6 fun K A=>?_;go_simp;refine A.out _ _ (fun _=>PO.drew) ?_;clear A K;refine P5 7 fun K A=>?_;have lN:=(fc.later (w':=ap.drew.alloc (.cells #[Oo q,Ol au,OC true] 211)) (QX.drew.alloc O8 _));obtain⟨d6,rg,hfr0,pK⟩:=lN.fu
 have gb:=hfr0;rw[<-dB.out] at gb;refine step_append_lies _ rfl _ _ 82 rfl mb 211 i0 _ 3 24 underlying82 dR dA b9 cn rfl Oz _ _ _ rfl gb (Ot ap.heap.size 0) 1 1 [Oo q,Ol au,OC true] rfl rfl (ahg ap.drew _ rfl q au true) (apJ q au true) Oz (by unfold maxLen;omega) Ou Rh (ap.heap.size+1) O8 ?_
 intro hJ hG bA hown4 kT na wb;refine ko A ?_;clear A K;obtain⟨hR,hc⟩:=lN.ava (a:=a) (f:=⟨d,au,true⟩) (lI.kp (Kp.of (QX.drew.alloc O8 _))) (WI:=.slice (some (Ot hJ 0)) (n+1) hG) kT rg hfr0 pK (by rw[<-dB.out];rw[bm.out] at hown4;exact hown4) (fun q ag=>by
  simp only[Value.ownBlock,Option.some.injEq] at ag;subst ag
  rcases na with h|h
  ·exact .inl h
  ·right;simp;omega)
 obtain⟨HM,H3⟩:=(lN.hh.keep (T:=[211]) (B:=mb) (w':=bA) (Py.grown kT Rh fun k E=>by
  obtain⟨c,aj⟩:=Qc gb E;exact⟨(gb.lt k E).1,c,211,aj,by simp⟩) Oz Oz Oz Oz Oz).at_ 7 _ rfl
 have hX:=hR;have v6:=(Q9.of ((Below.refl _ ap).drew.alloc O8 _) (O0 fD)).trans hc;have fm:=hide ((v6.frL (L:=none) fc).rest aU _ 65 dp.out Oz O8);have gu:=((Q9.of hbw3 (O0 bG)).trans v6);have gp:mb<bA.heap.size:=by have:=kT.size;simp at this;omega
 clear hR na wb pK rg;refine uz 8 (OM mb 0) ?_;refine uz 9 (OM mb 9) ?_;refine P5 10 fun K A=>?_;go_simp;refine ko A ?_;clear A K;refine Sl ?_ _;go_simp;obtain⟨b7,hi⟩:=xE (bA.setCell (Ot mb 9) (.slice (some (Ot hJ 0)) (n+1) hG));rw[<-hi] at hX gu fm ⊢;clear hi;obtain⟨mj,su⟩:=hX.hh.at_ 7 _ rfl;have hR:=hX.lt;have rS:=hide mj;have lK:=hide (fun X (ak:OD b7 X)=>ZE (hX.later ak).hh tB pk.out (3+((n:Int)+1) - 1));clear mj su;have qA:aU<b7.heap.size:=lt_of_heap fm.out;go_wp2_with fail
 refine TI 10 fun ab=>?_;refine up 0 mb 0 ab ?_;refine up 1 mb 0 ab ?_;refine up 2 mb 0 ab ?_;refine up 3 mb 0 ab ?_;refine up 4 mb 0 ab ?_;refine up 5 mb 9 ab ?_;refine uk 6 rS.out ab ?_;refine uh 7 (Ol ((n:Int)+1)) (ab) ?_;refine uh 8 (Ol (3+((n:Int)+1))) (ab) ?_ (hy:=Or.inl ⟨by kernel_rfl,fun _ _=>by go_simp;exact IntWalk.i64_in _ Ou⟩)
 refine uh 9 (Ol (3+((n:Int)+1) - 1)) (ab) ?_ (hy:=Or.inl ⟨by kernel_rfl,fun _ _=>by go_simp;exact IntWalk.i64_in _ Ou⟩)
 refine P5 10 fun K A=>?_;go_simp;refine cm (Om lK _ ab) ?_;rintro e ch ⟨rfl,AO,ji⟩;rw[<-r4.out];refine ko A ?_;clear A K;have vd:=((hX.later ab).heap AO ji);have ke:=(gu.trans ((Q9.of ab (O0 hR)).trans (Q9.ofT ji)));have g':=hide (ji.rest aU _ 65 (stays ab fm.out) Oz);refine P5 11 fun K A=>?_;go_simp;obtain⟨bP,dm⟩:=xE (Um ol);have kw:=ZG ol ch;rw[<-dm] at kw;have de:=hide dm;clear dm;refine cm kw ?_;rintro e dT ⟨rfl,fR⟩;refine ko A ?_;clear A K;have zj:=(vd.later fR)
 have ny:=(ke.trans (Q9.of fR (O0 vd.lt)));obtain⟨cH,bU,cg,eu,rl⟩:=cells3 (stays fR g'.out);have dt:=eu 0;have du:=eu 1;have dv:=eu 2;have k7:=hide (stays fR g'.out);clear eu;refine P5 12 fun K A=>?_;go_simp;refine ko A ?_;clear A K;refine Sl ?_ _;go_simp;go_wp2_with fail;obtain⟨b1,bx⟩:=xE (((dT.setCell (Ot aU 0) (Ol bP.k)).setCell (Ot aU 1) (Ol bP.n)).setCell (Ot aU 2) (OB bP.s));rw[<-bx];have d1:=ZJ k7.out (Ol bP.k) (Ol bP.n) (OB bP.s);have gK:mb<=aU:=by have:=Om xv;omega
 have bi:=RJ k7.out gK (Ol bP.k) (Ol bP.n) (OB bP.s);have bF:=ny.new bi (Ua xv.out _ _ _);have bC:=zj.YC bi Oz;rw[<-bx] at d1 bF bC;obtain⟨cG,b4,bT,_,_⟩:=cells3 d1;rw[<-de.out];refine WA (v:=vA bP) ⟨rfl,_,?_,bF⟩;have ay:3+((n:Int)+1) - 1=3+(σ.Rq.length:Int):=by rw[<-dB.out];omega
 rw[ay] at bC;exact bC),G);exact aC2),G);exact axz),G);exact aC3
theorem amv :
  OE 60 #[Oo mb,Oo a.p,.agg #[Ol au,Ol aG,OC false,.pointer aB]] w fun e w'=>e=OQ (vA (Um σ.M.objs.length))/\∃ WI,Mx w0 mb af O aW aC aA WI w' { σ with Rq:=σ.Rq++[⟨d,au,kZ⟩],M:=σ.M.Pz (3+σ.Rq.length) }/\Q9 mb aA aM aA WI w w':=by
 have z:=Oq (∀{G}(h:G:=by
 obtain⟨w2,da⟩:=xE ((w.alloc (.cells #[Ol au,Ol aG,OC false,.pointer aB] 73)).alloc (.cells #[Ol 0,Ol 0,PN] 65));have z:=Oq (∀{G}(h:G:=by
 have be:w2.heap[bf]? = some (O1 #[Ol au,Ol aG,OC false,.pointer aB] 73):=by
  rw[da,bV];exact alloc_old (OA _ _)
 have hr2:w2.heap[aU]? = some (O1 #[Ol 0,Ol 0,PN] 65):=by
  rw[da,b0,show w.heap.size+1=(w.alloc (.cells #[Ol au,Ol aG,OC false,.pointer aB] 73)).heap.size by simp];exact OA _ _
 have b8:=hide (cells4 be);have bj:=hide hr2;have bu:=hide da;have cq:=aF;have eF:=hide (O4 aF c3);have fi:=hide (O4 aF c1);have z:=Oq (∀{G}(h:G:=by
 refine aod (G:=?GG) (fun dJ=>?ways) ?rest
 case ways=>
  have z:=Oq (∀{G}(h:G:=by
  refine uh 5 (OC false) (ab) ?_;refine up 6 q 0 ab ?_;refine up 7 q 0 ab ?_;refine up 8 q 3 ab ?_;refine uk 9 eF.out ab ?_;refine up 10 g 1 ab ?_;refine uk 11 fi.out ab ?_;refine uq2 12 15 (fun K A=>?ca) fun K A=>?cb
  case' ca=>
   go_simp;refine cm (Om hZ _ (ab)) ?_;rintro e k0 ⟨rfl,i1⟩;rw[i1];clear i1 k0;refine A.out _ _ (fun _=>ab) ?_;clear A K;refine uh 13 (OC kZ) (ab) ?_ (hy:=Or.inl ⟨by kernel_rfl,fun _ _=>kZ.rec (by go_simp) (by go_simp)⟩);refine uh 14 (.agg #[OM q 0,Ol au,OC kZ]) (ab) ?_;refine P5 15 fun K A=>?_;go_simp;refine A.out _ _ (fun _=>PO.drew) ?_;clear A K;refine P5 16 fun K A=>?_;go_simp;refine ko A ?_;clear A K;refine Sl ?_ _
  case' cb=>
   go_simp;refine A.out _ _ (fun _=>PO.drew) ?_;clear A K;refine P5 12 fun K A=>?_;go_simp;refine cm (Om hZ _ (PO.drew)) ?_;rintro e k0 ⟨rfl,i1⟩;rw[i1];clear i1 k0;refine A.out _ _ (fun _=>PO.drew) ?_;clear A K;refine uh 13 (OC kZ) (PO.drew) ?_ (hy:=Or.inl ⟨by kernel_rfl,fun _ _=>kZ.rec (by go_simp) (by go_simp)⟩);refine uh 14 (.agg #[OM q 0,Ol au,OC kZ]) (PO.drew) ?_;refine P5 16 fun K A=>?_;go_simp;refine ko A ?_;clear A K;refine Sl ?_ _
  all_goals
   go_simp;exact dJ),G);exact aC1
 obtain⟨ap,ix⟩:=xE ((w2.alloc (.cells #[Oo q,Ol au,OC kZ] 211)).drew);rw[<-ix];have cS:ap.heap[w2.heap.size]? = some (O1 #[Oo q,Ol au,OC kZ] 211):=by
  rw[ix];exact OA w2 _
 have br:OD w2 ap:=by
  rw[ix];exact PO.drew
 obtain⟨q8,oQ⟩:=xE w2.heap.size;rw[<-oQ] at cS ⊢;have hbw3:OD w ap:=cq.trans (br.mono cq.size);have fc:=dQ.later hbw3;obtain⟨mj,su⟩:=fc.hh.at_ 7 _ rfl;obtain⟨z8,AH,gb,AI⟩:=fc.fu;obtain⟨yC,KI,n5⟩:=OX gb;have cQ:=hide (cells3 cS);have dp:=hide (stays br bj.out);have lI:=(d4.kp (Kp.of hbw3));rw[<-dB.out] at n5;subst n5;have rS:=hide mj;have fD:mb<ap.heap.size:=by have:=br.size;omega
 have fI:q8<ap.heap.size:=lt_of_heap cS;clear cS br mj su gb ix oQ cq bu AH AI z8 eU di gn;go_wp2_with fail;refine TI 7 fun ab=>?_;refine up 0 mb 0 ab ?_;refine up 1 mb 0 ab ?_;refine up 2 mb 0 ab ?_;refine up 3 mb 9 ab ?_;refine uk 4 rS.out ab ?_;refine uk3 5 cQ.out ab ?_;refine P5 6 fun K A=>?_;go_simp;refine A.out _ _ (fun _=>PO.drew) ?_;clear A K;refine P5 7 fun K A=>?_;have lN:=(fc.later (w':=ap.drew.alloc (.cells #[Oo q,Ol au,OC kZ] 211)) (QX.drew.alloc O8 _));obtain⟨d6,rg,hfr0,pK⟩:=lN.fu
 have gb:=hfr0;rw[<-dB.out] at gb;refine step_append_lies _ rfl _ _ 82 rfl mb 211 i0 _ 3 24 underlying82 dR dA b9 cn rfl Oz _ _ _ rfl gb (Ot ap.heap.size 0) 1 1 [Oo q,Ol au,OC kZ] rfl rfl (ahg ap.drew _ rfl q au kZ) (apJ q au kZ) Oz (by unfold maxLen;omega) Ou Rh (ap.heap.size+1) O8 ?_
 intro hJ hG bA hown4 kT na wb;refine ko A ?_;clear A K;obtain⟨hR,hc⟩:=lN.ava (a:=a) (f:=⟨d,au,kZ⟩) (lI.kp (Kp.of (QX.drew.alloc O8 _))) (WI:=.slice (some (Ot hJ 0)) (n+1) hG) kT rg hfr0 pK (by rw[<-dB.out];rw[bm.out] at hown4;exact hown4) (fun q ag=>by
  simp only[Value.ownBlock,Option.some.injEq] at ag;subst ag
  rcases na with h|h
  ·exact .inl h
  ·right;simp;omega)
 obtain⟨HM,H3⟩:=(lN.hh.keep (T:=[211]) (B:=mb) (w':=bA) (Py.grown kT Rh fun k E=>by
  obtain⟨c,aj⟩:=Qc gb E;exact⟨(gb.lt k E).1,c,211,aj,by simp⟩) Oz Oz Oz Oz Oz).at_ 7 _ rfl
 have hX:=hR;have v6:=(Q9.of ((Below.refl _ ap).drew.alloc O8 _) (O0 fD)).trans hc;have fm:=hide ((v6.frL (L:=none) fc).rest aU _ 65 dp.out Oz O8);have gu:=((Q9.of hbw3 (O0 bG)).trans v6);have gp:mb<bA.heap.size:=by have:=kT.size;simp at this;omega
 clear hR na wb pK rg;refine uz 8 (OM mb 0) ?_;refine uz 9 (OM mb 9) ?_;refine P5 10 fun K A=>?_;go_simp;refine ko A ?_;clear A K;refine Sl ?_ _;go_simp;obtain⟨b7,hi⟩:=xE (bA.setCell (Ot mb 9) (.slice (some (Ot hJ 0)) (n+1) hG));rw[<-hi] at hX gu fm ⊢;clear hi;obtain⟨mj,su⟩:=hX.hh.at_ 7 _ rfl;have hR:=hX.lt;have rS:=hide mj;have lK:=hide (fun X (ak:OD b7 X)=>ZE (hX.later ak).hh tB pk.out (3+((n:Int)+1) - 1));clear mj su;have qA:aU<b7.heap.size:=lt_of_heap fm.out;go_wp2_with fail
 refine TI 10 fun ab=>?_;refine up 0 mb 0 ab ?_;refine up 1 mb 0 ab ?_;refine up 2 mb 0 ab ?_;refine up 3 mb 0 ab ?_;refine up 4 mb 0 ab ?_;refine up 5 mb 9 ab ?_;refine uk 6 rS.out ab ?_;refine uh 7 (Ol ((n:Int)+1)) (ab) ?_;refine uh 8 (Ol (3+((n:Int)+1))) (ab) ?_ (hy:=Or.inl ⟨by kernel_rfl,fun _ _=>by go_simp;exact IntWalk.i64_in _ Ou⟩)
 refine uh 9 (Ol (3+((n:Int)+1) - 1)) (ab) ?_ (hy:=Or.inl ⟨by kernel_rfl,fun _ _=>by go_simp;exact IntWalk.i64_in _ Ou⟩)
 refine P5 10 fun K A=>?_;go_simp;refine cm (Om lK _ ab) ?_;rintro e ch ⟨rfl,AO,ji⟩;rw[<-r4.out];refine ko A ?_;clear A K;have vd:=((hX.later ab).heap AO ji);have ke:=(gu.trans ((Q9.of ab (O0 hR)).trans (Q9.ofT ji)));have g':=hide (ji.rest aU _ 65 (stays ab fm.out) Oz);refine P5 11 fun K A=>?_;go_simp;obtain⟨bP,dm⟩:=xE (Um ol);have kw:=ZG ol ch;rw[<-dm] at kw;have de:=hide dm;clear dm;refine cm kw ?_;rintro e dT ⟨rfl,fR⟩;refine ko A ?_;clear A K;have zj:=(vd.later fR)
 have ny:=(ke.trans (Q9.of fR (O0 vd.lt)));obtain⟨cH,bU,cg,eu,rl⟩:=cells3 (stays fR g'.out);have dt:=eu 0;have du:=eu 1;have dv:=eu 2;have k7:=hide (stays fR g'.out);clear eu;refine P5 12 fun K A=>?_;go_simp;refine ko A ?_;clear A K;refine Sl ?_ _;go_simp;go_wp2_with fail;obtain⟨b1,bx⟩:=xE (((dT.setCell (Ot aU 0) (Ol bP.k)).setCell (Ot aU 1) (Ol bP.n)).setCell (Ot aU 2) (OB bP.s));rw[<-bx];have d1:=ZJ k7.out (Ol bP.k) (Ol bP.n) (OB bP.s);have gK:mb<=aU:=by have:=Om xv;omega
 have bi:=RJ k7.out gK (Ol bP.k) (Ol bP.n) (OB bP.s);have bF:=ny.new bi (Ua xv.out _ _ _);have bC:=zj.YC bi Oz;rw[<-bx] at d1 bF bC;obtain⟨cG,b4,bT,_,_⟩:=cells3 d1;rw[<-de.out];refine WA (v:=vA bP) ⟨rfl,_,?_,bF⟩;have ay:3+((n:Int)+1) - 1=3+(σ.Rq.length:Int):=by rw[<-dB.out];omega
 rw[ay] at bC;exact bC),G);exact aC2),G);exact axz),G);exact aC3
end
end
abbrev aP (e:Ad):OG:=Oo e.p
def TA (B:Nat)(w:Ov)(v:OG)(es:List Ad):Prop:=w.ownsRow B 22 1 v es.length (es.map aP)/\Q5 (fun _=>True) w es
def Q5.of {I:Nat->Prop}{w:Ov}:∀ (es:List Ad),(∀ a ∈ es,RV I w a)->Q5 I w es
 | [],_=>by rw[Q5];trivial
 | x::es,h=>by rw[Q5];exact⟨h x O8,Q5.of es fun a ax=>h a (by simp[ax])⟩
section
variable {B:Nat} {w w':Ov} {v:OG} {es:List Ad} (h:TA B w v es)
include B w w' v es h
theorem TA.kp (E:Kp w w'):TA B w' v es:=⟨row_of h.1 fun _ _ _ hg=>E _ _ _ hg (Or.inr rfl),Q5.kp E _ h.2⟩
theorem TA.later (D:OD w w'):TA B w' v es:=h.kp (Kp.of D)
end
section
variable {B:Nat} {w:Ov} {v:OG} {es:List Ad} (h:TA B w v es)
include B w v es h
theorem TA.form:∃ a cap,v=.slice a es.length cap:=OX h.1
theorem TA.cell (k:Nat)(E:k<es.length):∃ g cap,v=.slice (some (Ot g 0)) es.length cap/\g<w.heap.size/\w.cell? (Ot g k)=some (Oo (es[k]).p)/\RV (fun _=>True) w es[k]:=by
 obtain⟨g,cap,rfl,_,_⟩:=h.1.form Ou;refine⟨g,cap,rfl,(h.1.lt g rfl).2,?_,Q5.mem es h.2 _ (List.getElem_mem _)⟩;rw[h.1.cellAt k Ou];simp[E]
end
def RV.row {w:Ov}{a:Ad}(h:RV (fun _=>True) w a):∃ v,w.cell? (Ot a.p 3)=some v/\TA 0 w v a.ks/\a.p<w.heap.size:=by
 cases a with
 | mk p kd tx n ks=>
  rw[RV] at h;obtain⟨_,al,⟨v,D,aa⟩,E⟩:=h;obtain⟨c0,c1,_,c3,_⟩:=node_cells D;refine⟨v,c3,⟨?_,E⟩,lt_of_heap D⟩;have h1:=aa.1;rw[List.length_map,List.map_map] at h1;exact h1
def alQ (a:Ad)(w:Ov)(h:RV (fun _=>True) w a):OE 120 #[Oo a.p] w fun e w'=>(∃ u,e=OQ u/\TA 0 w u a.ks)/\w'=w:=by
 obtain⟨u,c3,aa,eP⟩:=RV.row h;obtain⟨cV,uc,rfl⟩:=aa.form;obtain⟨p,al⟩:=xE a.p;rw[<-al] at c3 eP ⊢;clear h al;go_enter func120,ntmps120;go_wp2;go_ret;exact⟨⟨_,rfl,aa⟩,rfl⟩
def YQ (F:Nat)(f:Tr->Bool)(jv:VR F)
  (ah:∀ t p W,UA W t p->OE F #[Oo p] W fun e w'=>e=OQ (OC (f t))/\w'=W)
  (a:Ad) (w:Ov) (h:RV (fun _=>True) w a) (hl:a.ks.length<=90000) :
  OE 129 #[Oo a.p,fnV F] w fun e w'=>(∃ u,e=OQ u/\TA w.heap.size w' u (a.ks.filter fun k=>f k.tr))/\OD w w':=by
 obtain⟨i0,dR,dA,b9,cn⟩:=info_parts info22;have f5:=(alQ a w h);have hU:=hide ah;clear h ah
 generalize Bt:a.ks=ao at f5 hl
 obtain⟨p,al⟩:=xE a.p;rw[<-al] at f5 ⊢;clear Bt al a;go_enter func129,ntmps129;go_wp2_with fail;refine cm f5 ?_;rintro e w1 ⟨⟨u,rfl,aa⟩,rfl⟩;obtain⟨va,dD,rfl⟩:=aa.form;go_wp2_with fail
 go_loopw [5,11] (fun o i wr=>∃ (k:Nat) (dO:List Ad),k<=ao.length/\i=Ol k/\wr.ownsRow w1.heap.size 22 1 o dO.length (dO.map aP)/\dO=((ao.take k).filter fun k=>f k.tr)/\OD w1 wr) (fun _ i _=>ao.length - (intOf i).toNat)
 case atStart=>exact⟨0,[],Nat.zero_le _,rfl,⟨rfl,Or.inl ⟨rfl,rfl⟩⟩,rfl,QX⟩
 case round=>
  obtain⟨k,dO,E,rfl,hown,fv,hbel⟩:=hrel;have dw:=hown;have fL:=hide fv;obtain⟨aB,iS,rfl⟩:=U3 hown;have dz:dO.length<=k:=by
   rw[fv];have:=List.length_filter_le (fun k=>f k.tr) (ao.take k);rw[List.length_take] at this;omega
  clear fv
  by_cases aQ:k<ao.length
  ·obtain⟨g,cap,av,hg,gi,ru⟩:=aa.cell k aQ;simp only[Value.slice.injEq] at av;obtain⟨rfl,_,rfl⟩:=av;obtain⟨q,bm⟩:=xH ((ao[k]).p);rw[<-bm.out] at gi;have z:=Oq (∀{G}(h:G:=by
   have ai:=(Om hU ao[k].tr q wr (by rw[bm.out];exact ru.nat.nt.later hbel))
   have iI:=hide (List.take_succ_eq_append_getElem aQ);have dg:g<wr.heap.size:=Ou;have r4:=hide (Qj dw);clear gi
   cases hh:f ao[k].tr with
   | true=>
    have z:=Oq (∀{G}(h:G:=by
    go_roundw
    case rel=>
     refine⟨k+1,dO++[ao[k]],by omega,by go_num,?_,?_,d3⟩
     ·rw[List.length_append,List.map_append];have h:=hown';rw[bm.out] at h;exact h
     ·rw[iI.out,List.filter_append,<-fL.out];simp only[List.filter_cons,il.out,List.filter_nil,if_true]
    case measure=>simp[intOf];omega),G);exact az4
   | false=>
    rw[hh] at ai;have il:=hide hh;clear hh;have z:=Oq (∀{G}(h:G:=by
    go_roundw
    case rel=>
     refine⟨k+1,dO,by omega,by go_num,dw,?_,hbel⟩;rw[iI.out,List.filter_append,<-fL.out];simp only[List.filter_cons,il.out,List.filter_nil,Bool.false_eq_true,if_false,List.append_nil]
    case measure=>simp[intOf];omega),G);exact aeE),G);exact az5
  ·have cT:k=ao.length:=Ou;subst cT;go_wp2;go_ret;have h:=Om fL;rw[List.take_length] at h;subst h;exact⟨⟨_,rfl,dw,Q5.of _ fun x ae=>RV.later (Below.stay hbel) _ (Q5.mem _ aa.2 x (List.mem_filter.1 ae).1)⟩,hbel⟩
section
variable (a:Ad) (w:Ov) (h:RV (fun _=>True) w a) (hl:a.ks.length<=90000)
include a w h hl
theorem XA :
  OE 59 #[Oo a.p] w fun e w'=>(∃ u,e=OQ u/\TA w.heap.size w' u (a.ks.filter fun k=>TM k.tr))/\OD w w':=by
 have ai:=(YQ 130 TM az6 abU a w h hl);clear h;go_enter func59,ntmps59;exact arU
theorem adO :
  OE 77 #[Oo a.p] w fun e w'=>(∃ u,e=OQ u/\TA w.heap.size w' u (a.ks.filter fun k=>PE k.tr))/\OD w w':=by
 have ai:=(YQ 163 PE az7 adN a w h hl);clear h;go_enter func77,ntmps77;exact arU
end
def Zd (s:Int)(nm:OH)(v:Va)(M:Mo):Mo:=if (M.declare s nm 0 v).1=0 then (M.declare s nm 0 v).2 else (M.write s nm v).2
def ad5 (s:Int)(nm:OH)(v:Va)(σ:St):settle s nm v σ={ σ with M:=Zd s nm v σ.M }:=by
 unfold settle Zd St.dec
 split <;> rfl
def adW:Ur 0=Qp:=rfl
def ael {c:Int}(h:c≠0):Ur c=.iface 34 (Ol c):=by unfold Ur;rw[if_neg h]
def apN {M:Mo}(s:Int)(nm:OH)(v:Va):(M.declare s nm 0 v).1≠0->(M.declare s nm 0 v).2=M:=by
 unfold Mo.declare
 split
 ·intro _;rfl
 ·split
  ·intro _;rfl
  ·split
   ·intro _;rfl
   ·intro h;exact absurd rfl h
def Mo.Go.Zd {M:Mo}{N:Nat}(h:M.Go N)(s:Int)(nm:OH)(v:Va):(Hp.Zd s nm v M).Go (N+1):=by
 unfold Hp.Zd
 split
 ·exact h.declare s nm 0 v
 ·exact h.write s nm v
section
variable {mb:Nat} {R:List OG} {w w':Ov} {M:Mo} {N:Nat}
section
variable (h:PS mb R w M) (ac:M.Go N) (hN:N<1000000000) (au:Int) (nm:OH) (v:Va)
include h ac hN au nm v
theorem amx (h0:(M.declare au nm 0 v).1=0) :
  OE 270 #[Oo mb,Ol au,OB nm,vA v] w fun e w'=>e=OQ (.tuple #[])/\PS mb R w' (Zd au nm v M)/\Py Th mb w w':=by
 have bG:=h.lt;have z:=Oq (∀{G}(h:G:=by
 have z:=Oq (∀{G}(h:G:=by
 have il:=(h.later aF);have d4:=hide (fun X (ak:OD w2 X)=>Xg ((h.later aF).later ak) ac.sm (O0 hN) au nm 0 v);clear h e0;have ay:Zd au nm v M=(M.declare au nm 0 v).2:=by unfold Zd;rw[if_pos h0]
 rw[ay];rw[h0,adW] at d4;clear ay h0;go_enter func270,ntmps270;go_wp2_with fail;rw[<-bu.out,<-aV];clear aV;refine TI 6 fun ab=>?_;have z:=Oq (∀{G}(h:G:=by
 have z:=Oq (∀{G}(h:G:=by
 refine uz 7 (OC false) ?_;refine Sl ?_ _;go_simp;go_wp2
 go_end0
 exact⟨rfl,kU,cQ⟩),G);exact aDa),G);exact Un),G);exact aDb),G);exact aDc
theorem ajt (h0:(M.declare au nm 0 v).1≠0) :
  OE 270 #[Oo mb,Ol au,OB nm,vA v] w fun e w'=>e=OQ (.tuple #[])/\PS mb R w' (Zd au nm v M)/\Py Th mb w w':=by
 have bG:=h.lt;have z:=Oq (∀{G}(h:G:=by
 have z:=Oq (∀{G}(h:G:=by
 have fj:=hide e0;have il:=(h.later aF);have d4:=hide (fun X (ak:OD w2 X)=>Xg ((h.later aF).later ak) ac.sm (O0 hN) au nm 0 v);clear h e0;have ay:Zd au nm v M=(M.write au nm v).2:=by unfold Zd;rw[if_neg h0]
 rw[ay];rw[ael h0,apN au nm v h0] at d4;obtain⟨c0,gi⟩:=xE ((M.declare au nm 0 v).1);rw[<-gi] at d4;clear gi;clear ay h0;go_enter func270,ntmps270;go_wp2_with fail;rw[<-bu.out,<-aV];clear aV;refine TI 6 fun ab=>?_;have z:=Oq (∀{G}(h:G:=by
 have z:=Oq (∀{G}(h:G:=by
 have m0:=hide (cS.rest vb _ 65 (stays ab fj.out) Oz);refine uz 7 (OC true) ?_;refine Sl ?_ _;have fB:=hide (fun X (ak:OD ap X)=>aeL (kU.later ak) ac.sm (O0 hN) au nm v);have gh:=hide (cells3 m0.out);have fD:=kU.lt;have EP:=lt_of_heap m0.out;go_simp;go_wp2_with fail;refine TI 6 fun ab=>?_;have z:=Oq (∀{G}(h:G:=by
 refine uh 3 (Ol au) (ab) ?_;refine uh 4 (OB nm) (ab) ?_;refine uk3 5 gh.out ab ?_;refine P5 6 fun K A=>?_;go_simp;refine cm (Om fB _ ab) ?_;rintro e bA ⟨rfl,lT,h4⟩;refine ko A ?_;clear A K;have fF:=(cQ.trans ((Py.of ab (O0 fD)).trans h4));refine Sl ?_ _;go_simp;go_wp2
 go_end0
 exact⟨rfl,lT,fF⟩),G);exact Un),G);exact aDa),G);exact Un),G);exact aDb),G);exact aDc
theorem apO :
  OE 270 #[Oo mb,Ol au,OB nm,vA v] w fun e w'=>e=OQ (.tuple #[])/\PS mb R w' (Zd au nm v M)/\Py Th mb w w':=by
 by_cases h0:(M.declare au nm 0 v).1=0
 ·exact amx h ac hN au nm v h0
 ·exact ajt h ac hN au nm v h0
end
def Yn (au:Int)(ao:List Tr)(M:Mo):Mo:=ao.foldl (fun M k=>(M.declare au k.tx (if k.kd=4 then 2 else 1) vU).2) M
def acE (ao:List Tr)(au:Int):∀ σ:St,Qz ao au σ={ σ with M:=Yn au ao σ.M }:=by
 unfold Qz Yn
 induction ao with
 | nil=>intro σ;rfl
 | cons t ao bn=>intro σ;rw[List.foldl_cons,bn];rfl
def aju (au:Int)(ao:List Tr)(M:Mo)(k:Nat)(E:k<ao.length):Yn au (ao.take (k+1)) M=((Yn au (ao.take k) M).declare au (ao[k]).tx (if (ao[k]).kd=4 then 2 else 1) vU).2:=by
 unfold Yn;rw[List.take_succ_eq_append_getElem E,List.foldl_append];rfl
def Mo.Go.lets (au:Int):∀ (ao:List Tr) {M:Mo} {N:Nat},M.Go N->(Yn au ao M).Go (N+ao.length)
 | [],_,_,h=>h
 | t::ao,M,N,h=>by
  have:=Mo.Go.lets au ao (h.declare au t.tx (if t.kd=4 then 2 else 1) vU);rw[List.length_cons,show N+(ao.length+1)=N+1+ao.length by omega];exact this
def amy (f:Tr->Bool)(es:List Ad):(es.filter fun k=>f k.tr).map Ad.tr=(es.map Ad.tr).filter f:=by rw[List.filter_map];rfl
def axD (h:PS mb R w M)(ac:M.Go N){a:Ad}(ax:RV (fun _=>True) w a)(E:a.ks.length<=90000)(hN:N+a.ks.length<1000000000)(au:Int) :
  OE 57 #[Oo mb,Oo a.p,Ol au] w fun e w'=>e=OQ (.tuple #[])/\PS mb R w' (Yn au (Pv a.tr) M)/\Py Th mb w w':=by
 have bG:=h.lt;have ai:=(adO a w ax E);obtain⟨es,gJ⟩:=xE (a.ks.filter fun k=>PE k.tr);have ay:Pv a.tr=es.map Ad.tr:=by unfold Pv;rw[gJ,amy,a.aj2.2.2]
 have fk:es.length<=a.ks.length:=by rw[gJ];exact List.length_filter_le _ _
 rw[<-gJ] at ai;rw[ay];have il:=h;obtain⟨p,al⟩:=xE a.p;rw[<-al] at ai ⊢;have ID:N+es.length<1000000000:=Ou;have IQ:es.length<=90000:=Ou;clear h ax gJ ay al fk hN E;go_enter func57,ntmps57;go_wp2_with fail;refine cm ai ?_;rintro e w1 ⟨⟨u,rfl,aa⟩,b6⟩;obtain⟨cV,dP,rfl⟩:=aa.form;have gv:=(il.later b6);have n1:=gv.lt;go_wp2_with fail
 go_loopw [12] (fun i wr=>∃ k:Nat,k<=es.length/\i=Ol k/\PS mb R wr (Yn au ((es.map Ad.tr).take k) M)/\Py Th mb w1 wr) (fun i _=>es.length - (intOf i).toNat)
 case atStart=>exact⟨0,Nat.zero_le _,rfl,gv,Py.of QX (O0 n1)⟩
 case round=>
  obtain⟨k,E,rfl,hh,aH⟩:=hrel;have xo:=hh;have h':=hh.lt
  by_cases aQ:k<es.length
  ·obtain⟨g,cap,av,hg,aj,az⟩:=(aa.kp (Py.kp aH)).cell k aQ;simp only[Value.slice.injEq] at av;obtain⟨rfl,_,rfl⟩:=av;have h8:(k:Int)<(es.length:Int):=Ou;obtain⟨dz,c0,c1,_⟩:=UA.cells az.nat.nt;have rn:k<(es.map Ad.tr).length:=by simpa using aQ
   have iI:=hide (aju au (es.map Ad.tr) M k rn);have D3:(es.map Ad.tr)[k]=(es[k]).tr:=by simp
   rw[D3] at iI;obtain⟨q,ag⟩:=xE ((es[k]).p);obtain⟨t,bc⟩:=xE ((es[k]).tr);rw[<-ag] at aj dz c0 c1;rw[<-bc] at c0 c1 iI;have ud:(Yn au ((es.map Ad.tr).take k) M).Go (N+k):=by
    have:=Mo.Go.lets au ((es.map Ad.tr).take k) ac;rw[List.length_take,List.length_map,Nat.min_eq_left E] at this;exact this
   obtain⟨Le,DA⟩:=xE (Yn au ((es.map Ad.tr).take k) M);rw[<-DA] at xo iI ud;have xR:N+k<1000000000:=Ou;have fi:=hide c1;clear D3 ag bc DA rn
   by_cases aL:t.kd=4
   ·rw[if_pos aL] at iI;have hH:t.kd=4:=aL;rw[hH] at c0;clear aL hH;go_wp2_with fail;have d4:=hide (fun X (ak:OD wr X)=>Xg (xo.later ak) ud.sm (O0 xR) au t.tx 2 vU);obtain⟨tx,cD⟩:=xE t.tx;rw[<-cD] at d4 fi;have lM:=hide cD;clear cD;refine TI 10 fun ab=>?_;have z:=Oq (∀{G}(h:G:=by
    refine uh 3 (Ol au) (ab) ?_;have z:=Oq (∀{G}(h:G:=by
    refine uh 8 (Ol 2) (ab) ?_;exact aDd),G);exact asq),G);exact Un
   ·rw[if_neg aL] at iI;obtain⟨kd,bo⟩:=xE t.kd;rw[<-bo] at c0 aL;clear bo;go_wp2_with fail;have d4:=hide (fun X (ak:OD wr X)=>Xg (xo.later ak) ud.sm (O0 xR) au t.tx 1 vU);obtain⟨tx,cD⟩:=xE t.tx;rw[<-cD] at d4 fi;have lM:=hide cD;clear cD;refine TI 10 fun ab=>?_;have z:=Oq (∀{G}(h:G:=by
    refine uh 3 (Ol au) (ab) ?_;have z:=Oq (∀{G}(h:G:=by
    refine uh 8 (Ol 1) (ab) ?_;exact aDd),G);exact asq),G);exact Un
  ·have cT:k=es.length:=Ou;subst cT;go_wp2
   go_end0
   have h:=xo;rw[show es.length=(es.map Ad.tr).length by simp,List.take_length] at h;exact⟨rfl,h,(Py.of b6 (O0 bG)).trans aH⟩
end
structure Sz (N:Nat)(σ:St):Prop where
 go:σ.M.Go N
 ow:σ.QF.length<=N
 fn:σ.Rq.length<=N
 lg:σ.log.length<=N
 se:σ.seen.length<=N
 oe:σ.QF.length=σ.M.OI.length
def Sz.up {N N':Nat}{σ:St}(h:Sz N σ)(hN:N<=N'):Sz N' σ:=⟨h.go.up hN,Nat.le_trans h.ow hN,Nat.le_trans h.fn hN,Nat.le_trans h.lg hN,Nat.le_trans h.se hN,h.oe⟩
def Sz.heap {N N':Nat}{σ:St}{M:Mo}(h:Sz N σ)(hN:N<=N')(aJ:M.Go N')(aa:M.OI.length=σ.M.OI.length):Sz N' { σ with M:=M }:=⟨aJ,Nat.le_trans h.ow hN,Nat.le_trans h.fn hN,Nat.le_trans h.lg hN,Nat.le_trans h.se hN,h.oe.trans aa.symm⟩
def aap (M:Mo)(o:Int)(nm:OH)(v:Va)(fx:Bool):(M.put o nm v fx).2.OI.length=M.OI.length:=by
 unfold Mo.put
 repeat' split
 all_goals first|rfl|simp[Mo.TN]
def Vu (M:Mo)(s:Int)(nm:OH)(k:Int)(v:Va):(M.declare s nm k v).2.OI.length=M.OI.length:=by
 unfold Mo.declare
 repeat' split
 all_goals first|rfl|simp[Mo.RZ]
def Yl (M:Mo)(s:Int)(nm:OH)(v:Va):(M.write s nm v).2.OI.length=M.OI.length:=by
 unfold Mo.write
 repeat' split
 all_goals first|rfl|exact aap _ _ _ _ _|simp[Mo.RZ]
def ajv (s:Int)(nm:OH)(v:Va)(M:Mo):(Zd s nm v M).OI.length=M.OI.length:=by
 unfold Zd
 split
 ·exact Vu _ _ _ _ _
 ·exact Yl _ _ _ _
def acF (au:Int):∀ (ao:List Tr) (M:Mo),(Yn au ao M).OI.length=M.OI.length
 | [],_=>rfl
 | _::ao,_=>(acF au ao _).trans (Vu _ _ _ _ _)
section
variable {N:Nat} {σ:St} (h:Sz N σ)
include N σ h
theorem Sz.settle (s:Int)(nm:OH)(v:Va):Sz (N+1) (settle s nm v σ):=by
 rw[ad5];exact h.heap (Nat.le_succ _) (h.go.Zd s nm v) (ajv _ _ _ _)
theorem Sz.mkFun (d:Nd)(p:Pl):Sz (N+1) (mkFun d p σ).2:=
 ⟨h.go.Pz _,Nat.le_succ_of_le h.ow,by have:=h.fn;simp[Hp.mkFun];omega,Nat.le_succ_of_le h.lg,Nat.le_succ_of_le h.se,h.oe⟩
theorem Sz.opn (u o x:Int):Sz (N+1) (σ.opn u o x):=
 ⟨h.go.scope _ _,by have:=h.ow;simp[St.opn];omega,Nat.le_succ_of_le h.fn,Nat.le_succ_of_le h.lg,Nat.le_succ_of_le h.se,by have:=h.oe;simp[St.opn,Mo.scope,this]⟩
theorem Sz.lets (ao:List Tr)(s:Int):Sz (N+ao.length) (Qz ao s σ):=by
 rw[acE];exact h.heap Ou (h.go.lets s ao) (acF _ _ _)
end
def Uo (O:List Nat)(w:Ov):List Ad->List Nd->Prop
 | [],[]=>True
 | e::es,d::a6=>OY O w e d/\Uo O w es a6
 | _,_=>False
def Uo.of {O:List Nat}{w:Ov}:∀ (es:List Ad) (a6:List Nd),es.length=a6.length->(∀ (i:Nat) k,es[i]? = some k->∃ fX,a6[i]? = some fX/\OY O w k fX)->Uo O w es a6
 | [],[],_,_=>trivial
 | [],_::_,h,_=>by simp at h
 | _::_,[],h,_=>by simp at h
 | e::es,d::a6,h,E=>by
  refine⟨?_,Uo.of es a6 (by simpa using h) fun i k am=>by simpa using E (i+1) k (by simpa using am)⟩;obtain⟨fX,h1,U⟩:=E 0 e rfl;simp at h1;subst h1;exact U
def OY.ndl {O:List Nat}{w:Ov}{a:Ad}{d:Nd}(h:OY O w a d):Uo O w a.ks (P9 d):=Uo.of _ _ (by rw[h.ks,Si]) fun _ _ am=>h.kid am
def Uo.filter {O:List Nat}{w:Ov}(f:Tr->Bool):∀ (es:List Ad) (a6:List Nd),Uo O w es a6->Uo O w (es.filter fun k=>f k.tr) (a6.filter fun k=>f k.2)
 | [],[],_=>trivial
 | [],_::_,h=>h.elim
 | _::_,[],h=>h.elim
 | e::es,d::a6,h=>by
  rw[List.filter_cons,List.filter_cons,h.1.tr]
  split
  ·exact⟨h.1,Uo.filter f es a6 h.2⟩
  ·exact Uo.filter f es a6 h.2
def Uo.get {O:List Nat}{w:Ov}:∀ (es:List Ad) (a6:List Nd),Uo O w es a6->∀ (i:Nat) (h1:i<es.length) (U:i<a6.length),OY O w es[i] a6[i]
 | [],_,_,i,h1,_=>by simp at h1
 | _::_,[],_,i,_,U=>by simp at U
 | _::_,_::_,h,0,_,_=>h.1
 | _::es,_::a6,h,i+1,h1,U=>Uo.get es a6 h.2 i (by simpa using h1) (by simpa using U)
def Uo.len {O:List Nat}{w:Ov}:∀ (es:List Ad) (a6:List Nd),Uo O w es a6->es.length=a6.length
 | [],[],_=>rfl
 | [],_::_,h=>h.elim
 | _::_,[],h=>h.elim
 | _::es,_::a6,h=>by rw[List.length_cons,List.length_cons,Uo.len es a6 h.2]
def Uo.kp {O:List Nat}{w w':Ov}(E:Kp w w'):∀ (es:List Ad) (a6:List Nd),Uo O w es a6->Uo O w' es a6
 | [],[],_=>trivial
 | [],_::_,h=>h.elim
 | _::_,[],h=>h.elim
 | _::es,_::a6,h=>⟨h.1.kp E,Uo.kp E es a6 h.2⟩
def XR (p:Pl)(a6:List Nd)(σ:St):St:=a6.foldl (fun σ k=>settle p.scope k.2.tx (mkFun k p σ).1 (mkFun k p σ).2) σ
def ajw (p:Pl)(a6:List Nd)(σ:St)(k:Nat)(E:k<a6.length):XR p (a6.take (k+1)) σ=settle p.scope (a6[k]).2.tx (mkFun a6[k] p (XR p (a6.take k) σ)).1 (mkFun a6[k] p (XR p (a6.take k) σ)).2:=by
 unfold XR;rw[List.take_succ_eq_append_getElem E,List.foldl_append];rfl
def Sz.XR (p:Pl):∀ (a6:List Nd) {σ:St} {N:Nat},Sz N σ->Sz (N+2 * a6.length) (XR p a6 σ)
 | [],_,_,h=>h
 | d::a6,σ,N,h=>by
  have:=Sz.XR p a6 ((h.mkFun d p).settle p.scope d.2.tx (Hp.mkFun d p σ).1);rw[List.length_cons,show N+2 * (a6.length+1)=N+1+1+2 * a6.length by omega];exact this
section
variable {w0:Ov} {mb af:Nat} {O:List Nat} {es aW aC aA aM:OG} {w w':Ov} {σ:St} {N:Nat}
section
variable (ae:Mx w0 mb af O aW aC aA aM w σ)
include ae
theorem ZI {a:Ad}{d:Nd}(hd:OY O w a d)(E:d.2.kids.length=2)(aI:Sz N σ)(hN:N<1000000000)(p:Pl)(aB:Option Addr) :
  OE 60 #[Oo mb,Oo a.p,PU p aB] w fun e w'=>e=OQ (vA (mkFun d p σ).1)/\∃ WI,Mx w0 mb af O aW aC aA WI w' (mkFun d p σ).2/\Q9 mb aA aM aA WI w w':=by
 obtain⟨au,aG,st⟩:=p;have hl:σ.Rq.length<=1000000000:=O0 (Nat.lt_of_le_of_lt aI.fn hN)
 cases st with
 | true=>
  have h:=ajp ae hd E hl aI.go.sm (O0 hN) au aG aB _ rfl;unfold mkFun;rw[Bool.true_or];exact h
 | false=>
  have h:=amv ae hd E hl aI.go.sm (O0 hN) au aG aB _ rfl;unfold mkFun;rw[Bool.false_or];exact h
theorem ag9 (aI:Sz N σ)(hN:N<1000000000)(au:Int)(nm:OH)(v:Va) :
  OE 270 #[Oo mb,Ol au,OB nm,vA v] w fun e w'=>e=OQ (.tuple #[])/\Mx w0 mb af O aW aC aA aM w' (settle au nm v σ)/\Py Th mb w w':=by
 refine(apO ae.hh aI.go hN au nm v).mono ?_;rintro e w' ⟨rfl,h1,U⟩;rw[ad5];exact⟨rfl,ae.heap h1 U,U⟩
theorem afc (aI:Sz N σ){a:Ad}{d:Nd}(hd:OY O w a d)(E:d.2.kids.length<=90000)(hN:N+d.2.kids.length<1000000000)(au:Int) :
  OE 57 #[Oo mb,Oo a.p,Ol au] w fun e w'=>e=OQ (.tuple #[])/\Mx w0 mb af O aW aC aA aM w' (Qz (Pv d.2) au σ)/\Py Th mb w w':=by
 have h:=axD ae.hh aI.go hd.at_ (by rw[hd.ks];exact E) (by rw[hd.ks];exact hN) au
 rw[hd.tr] at h;refine h.mono ?_;rintro e w' ⟨rfl,h1,U⟩;rw[acE];exact⟨rfl,ae.heap h1 U,U⟩
end
def Wu {b j:Nat}{c:Array OG}{t:TypeId}(h:w.heap[b]? = some (O1 c t))(D:mb<=b)(x:OG):Py [t] mb w (w.setCell (Ot b j) x):=
 Py.setCell (Py.of QX (Nat.le_trans D (O0 (lt_of_heap h)))) h O8 D _
def ZM {b j:Nat}(D:w.heap.size<=b)(x:OG)(i:Nat)(am:i<w.heap.size):(w'.setCell (Ot b j) x).heap[i]? = w'.heap[i]?:=heap_setCell_other _ _ _ _ (show i≠b by omega)
def OY.blk {a:Ad}{d:Nd}(h:OY O w a d):∃ c,w.heap[a.p]? = some (O1 c 40):=by
 have h1:=h.at_;exact axf
section
variable {gU eH:OG} (h:Q9 mb aA aM gU eH w w') (ae:Mx w0 mb af O aW aC aA aM w σ)
include gU eH h ae
theorem Q9.XQ {q j:Nat}{v:OG}(aj:w.cell? (Ot q j)=some v)(ag:∃ c,w.heap[q]? = some (O1 c 40)):w'.cell? (Ot q j)=some v:=by
 obtain⟨c,ag⟩:=ag;have U:w'.heap[q]? = w.heap[q]?:=(h.kp ae q c 40 ag (Or.inl rfl)).trans ag.symm;exact(World.cell?_of_block (w:=w) (a:=(Ot q j)) U).trans aj
theorem Q9.keep {b:Nat}{c:Array OG}{t:TypeId}(D:w.heap[b]? = some (O1 c t))(bc:t ∉ Tm):w'.heap[b]? = some (O1 c t):=(h.frL (L:=none) ae).rest b c t D bc O8
end
def akG (ae:Mx w0 mb af O aW aC aA aM w σ)(aI:Sz N σ){a:Ad}{d:Nd}(hd:OY O w a d)(E:d.2.kids.length<=90000)(hN:N+2 * d.2.kids.length<1000000000)(U:∀ k ∈ TY d,k.2.kids.length=2)(p:Pl)(aB:Option Addr) :
  OE 199 #[Oo mb,Oo a.p,PU p aB] w fun e w'=>e=OQ (.tuple #[])/\∃ WI,Mx w0 mb af O aW aC aA WI w' (U4 d p σ)/\Q9 mb aA aM aA WI w w':=by
 have bG:=ae.lt;have z:=Oq (∀{G}(h:G:=by
 obtain⟨es,gJ⟩:=xE (a.ks.filter fun k=>TM k.tr);obtain⟨a6,hds⟩:=xE (TY d);have fk:es.length<=d.2.kids.length:=by rw[gJ,<-hd.ks];exact List.length_filter_le _ _
 have ft:Uo O w es a6:=by rw[gJ,hds];exact Uo.filter TM _ _ hd.ndl
 have hlen:=Uo.len _ _ ft;have ai:=(XA a w2 (RV.kp (Kp.of aF) _ hd.at_) (by rw[hd.ks];exact E))
 rw[<-gJ] at ai;have ay:∀ p,U4 d p σ=XR p a6 σ:=fun p=>by rw[hds];rfl
 rw[ay];rw[<-hds] at U;obtain⟨q,ag⟩:=xE a.p;rw[<-ag] at ai ⊢;have el:=(ae.later aF);have Gz:=(Uo.kp (Kp.of aF) _ _ ft);have b8:=hide be;have gY:=hide U;have ID:N+2 * es.length<1000000000:=Ou;have IQ:es.length<=90000:=Ou;have p8:=hide hlen;clear E hN U gJ hds fk ay ag be hlen;go_enter func199,ntmps199;go_wp2_with fail;rw[<-bu.out,<-bV];clear bV;refine cm ai ?_;rintro e w1 ⟨⟨u,rfl,aa⟩,b6⟩;obtain⟨cV,dP,rfl⟩:=aa.form;have f3:=(aF.trans (b6.mono aF.size));have h2:=(el.later b6)
 have nF:=(Uo.kp (Kp.of b6) _ _ Gz);have gE:=hide (stays b6 b8.out);have n1:=h2.lt;go_wp2_with fail
 go_loopw [11] (fun i wr=>∃ (k:Nat) (WI:OG),k<=es.length/\i=Ol k/\Mx w0 mb af O aW aC aA WI wr (XR ⟨au,aG,st⟩ (a6.take k) σ)/\Q9 mb aA aM aA WI w1 wr) (fun i _=>es.length - (intOf i).toNat)
 case atStart=>exact⟨0,aM,Nat.zero_le _,rfl,h2,Q9.of QX (O0 n1)⟩
 case round=>
  obtain⟨k,qh,E,rfl,hh,aH⟩:=hrel;have eX:=hh;have fN:=hide (aH.keep h2 gE.out Oz);have h':=hh.lt
  by_cases aQ:k<es.length
  ·obtain⟨g,cap,av,hg,aj,az⟩:=(aa.kp (aH.kp h2)).cell k aQ;simp only[Value.slice.injEq] at av;obtain⟨rfl,_,rfl⟩:=av;have h8:(k:Int)<(es.length:Int):=Ou;have bo:k<a6.length:=by rw[<-p8.out];exact aQ
   have jj:=(Uo.get _ _ nF k aQ bo).kp (aH.kp h2);obtain⟨dz,_,c1,_⟩:=jj.cells;have iI:=hide (ajw ⟨au,aG,st⟩ a6 σ k bo);have jT:Sz (N+2 * k) (XR ⟨au,aG,st⟩ (a6.take k) σ):=by
    have:=(Sz.XR ⟨au,aG,st⟩ (a6.take k) aI);rw[List.length_take,Nat.min_eq_left (O0 bo)] at this;exact this
   obtain⟨dE,gT⟩:=xE (XR ⟨au,aG,st⟩ (a6.take k) σ);rw[<-gT] at eX iI jT;have Dj:=Om gY a6[k] (List.getElem_mem _);have hU:=hide (fun X (ak:OD wr X)=>ZI (eX.later ak) (jj.kp (Kp.of ak)) Dj jT Ou ⟨au,aG,st⟩ aB);obtain⟨bT,eU⟩:=xE ((es[k]).p);obtain⟨fX,oP⟩:=xE (a6[k]);have A5:=jj.blk;rw[<-eU] at aj dz c1 hU A5;rw[<-oP] at c1 iI hU;have wR:=jT.mkFun fX ⟨au,aG,st⟩;obtain⟨ey,mF⟩:=xE ((mkFun fX ⟨au,aG,st⟩ dE).1);obtain⟨tx,cD⟩:=xE fX.2.tx;rw[<-mF] at hU iI;rw[<-cD] at c1 iI
   have xR:N+2 * k+1<1000000000:=Ou;have eP:=lt_of_heap fN.out;have fi:=hide c1;have zo:Hid (∃ c,wr.heap[bT]? = some (O1 c 40)):=A5;clear A5 gT Dj eU oP mF cD c1;go_wp2_with fail;have ab:(fun X=>X.heap[bf]? = some (plO ⟨au,aG,st⟩ aB)/\X.cell? (Ot bT 1)=some (OB tx)) wr.drew:=⟨fN.out,fi.out⟩;refine QE 11 (fun X=>X.heap[bf]? = some (plO ⟨au,aG,st⟩ aB)/\X.cell? (Ot bT 1)=some (OB tx)) PK ?_;refine up 0 mb 0 ab ?_;refine up 1 bf 0 ab ?_
   refine uc 2 (Ol au) rfl (Or.inl ⟨by kernel_rfl,fun X ak=>by have h0:=(cells4 ak.1).1;go_simp⟩) (ab) ?_
   refine up 3 bT 0 ab ?_;refine up 4 bT 0 ab ?_;refine up 5 bT 1 ab ?_;refine uc 6 (OB tx) rfl (Or.inl ⟨by kernel_rfl,fun X ak=>by have h0:=ak.2;go_simp⟩) (ab) ?_
   refine up 7 mb 0 ab ?_;refine up 8 bT 0 ab ?_;refine uc 9 (.agg #[Ol au,Ol aG,OC st,.pointer aB]) rfl (Or.inl ⟨by kernel_rfl,fun X ak=>by have h0:=(cells4 ak.1).1;have h1:=(cells4 ak.1).2.1;have U:=(cells4 ak.1).2.2.1;have aw:=(cells4 ak.1).2.2.2.1;go_simp⟩) (ab) ?_
   refine P5 10 fun K A=>?_;go_simp;refine cm (Om hU _ QX.drew) ?_;rintro e ap ⟨rfl,fU,fc,cS⟩;have hfr3:Q9 mb aA qh aA fU wr ap:=(Q9.of QX.drew (O0 h')).trans cS;have sT:ap.heap[bf]? = some (plO ⟨au,aG,st⟩ aB)/\ap.cell? (Ot bT 1)=some (OB tx):=⟨hfr3.keep eX fN.out Oz,hfr3.XQ eX fi.out zo.out⟩;refine A.out _ _ (fun _=>sT) ?_;clear A K;have cQ:=(aH.trans hfr3);refine P5 11 fun K A=>?_;go_simp;refine cm (ag9 fc wR xR au tx ey) ?_;rintro e bA ⟨rfl,gS,h4⟩;refine ko A ?_;clear A K
   have fF:=(cQ.trans (Q9.ofT h4));clear sT ab;refine Sl ?_ _;go_simp;go_wp2
   go_roundw
   case rel=>
    refine⟨k+1,_,by omega,by go_num,?_,fF⟩;rw[iI.out];exact gS
   case measure=>simp[intOf];omega
  ·have cT:k=es.length:=Ou;subst cT;go_wp2
   go_end0
   rw[p8.out,List.take_length] at eX;exact⟨rfl,_,eX,(Q9.of f3 (O0 bG)).trans aH⟩),G);exact zss
end
section
variable {w:Ov} {b:Nat} {x y bD u:OG} {t:TypeId} (h:w.heap[b]? = some (O1 #[x,y,bD,u] t))
include w b x y bD u t h
theorem aat (x' jB jl g8:OG) :
  ((((w.setCell (Ot b 0) x').setCell (Ot b 1) jB).setCell (Ot b 2) jl).setCell (Ot b 3) g8).heap[b]? = some (O1 #[x',jB,jl,g8] t):=by
 have z:=Oq (∀{G}(h:G:=by
 have aL:=heap_setCell_same _ b 3 _ t g8 aw;exact aL),G);exact as6
theorem YE (x':OG) :
  (w.setCell (Ot b 0) x').heap[b]? = some (O1 #[x',y,bD,u] t):=heap_setCell_same w b 0 _ t x' h
end
section
variable {w0:Ov} {mb af:Nat} {O:List Nat} {es aW aC aA aM:OG} {w w':Ov} {σ:St} {N:Nat}
def Uw {b:Nat}{x y bD u:OG}{t:TypeId}(h:w.heap[b]? = some (O1 #[x,y,bD,u] t))(D:mb<=b)(x' jB jl g8:OG):Py [t] mb w ((((w.setCell (Ot b 0) x').setCell (Ot b 1) jB).setCell (Ot b 2) jl).setCell (Ot b 3) g8):=by
 have z:=Oq (∀{G}(h:G:=by
 exact Py.setCell (Py.setCell (Py.setCell (Py.setCell (Py.of QX (Nat.le_trans D (O0 (lt_of_heap h)))) h O8 D _) h1 O8 D _) U O8 D _) aw O8 D _),G);exact as6
def U6 {b:Nat}(D:w.heap.size<=b)(x' jB jl g8:OG)(j:Nat)(aN:j<w.heap.size):((((w'.setCell (Ot b 0) x').setCell (Ot b 1) jB).setCell (Ot b 2) jl).setCell (Ot b 3) g8).heap[j]? = w'.heap[j]?:=by
 have cl:j≠b:=Ou;rw[heap_setCell_other _ _ _ _ cl,heap_setCell_other _ _ _ _ cl,heap_setCell_other _ _ _ _ cl,heap_setCell_other _ _ _ _ cl]
def Rf (t:Tr):t.kids.length<t.count:=by
 cases t with
 | mk kd tx n ks=>
  rw[count_mk];have h:∀ ao:List Tr,ao.length<=Tr.counts ao:=by
   intro ao
   induction ao with
   | nil=>simp
   | cons t ao bn=>
    rw[OU,List.length_cons];have:1<=t.count:=by cases t with|mk kd tx n ks=>rw[count_mk];omega
    omega
  have:=h ks
  show ks.length<_
  omega
def Y6 (ae:Mx w0 mb af O aW aC aA aM w σ)(aI:Sz N σ)(hN:N<1000000000)(u o x:Int)(aT:(σ.M.ro u).isSome=true) :
  OE 50 #[Oo mb,Ol u,Ol o,Ol x] w fun e w'=>e=OQ (Ol σ.top)/\∃ VA,Mx w0 mb af O aW aC VA aM w' (σ.opn u o x)/\Q9 mb aA aM VA aM w w':=
 open_any ae u o x (O0 (Nat.lt_of_le_of_lt aI.ow hN)) fun _ _ ak=>asc ak aI.go.sm (O0 hN) u o aT
def as3 (a8:Bs w0 mb af O es)(ae:Mx w0 mb af O aW aC aA aM w σ)(aI:Sz N σ){a:Ad}{d:Nd}(hd:OY O w a d)(aj:d.2.count<=1500)(hN:N+10000<1000000000)(U:∀ k ∈ TY d,k.2.kids.length=2)(p:Pl)(aB:Option Addr)(iZ:(σ.M.ro p.scope).isSome=true) :
  OE 110 #[Oo mb,Oo a.p,PU p aB] w fun e w'=>e=OQ (PU (Qg d p σ).1 aB)/\∃ VA WI,Mx w0 mb af O aW aC VA WI w' (Qg d p σ).2/\Q9 mb aA aM VA WI w w':=by
 have bG:=ae.lt;obtain⟨au,aG,st⟩:=p;obtain⟨w2,da⟩:=xE ((w.alloc (.cells #[Ol au,Ol aG,OC st,.pointer aB] 73)).alloc (.cells #[Ol 0,Ol 0,OC false,Ri] 73));have z:=Oq (∀{G}(h:G:=by
 have be:w2.heap[bf]? = some (O1 #[Ol au,Ol aG,OC st,.pointer aB] 73):=by rw[da,bV];exact alloc_old (OA _ _)
 have hr2:w2.heap[aU]? = some (O1 #[Ol 0,Ol 0,OC false,Ri] 73):=by
  rw[da,b0,show w.heap.size+1=(w.alloc (.cells #[Ol au,Ol aG,OC st,.pointer aB] 73)).heap.size by simp];exact OA _ _
 have z:=Oq (∀{G}(h:G:=by
 have cM:=Rf d.2;have fo:UA w2 d.2 a.p:=by rw[<-hd.tr];exact(RV.kp (Kp.of aF) _ hd.at_).nat.nt
 have ai:=(aae d.2 a.p false w2 fo Ou);have el:=(ae.later aF);have k1:=(hd.kp (Kp.of aF));have b8:=hide be;have bj:=hide hr2;have bu:=hide da;have cR:=hide cL;have sd:=hide dx;have tu:=hide d0;have dW:=aI;have yR:=a8;have gY:=hide U;obtain⟨q,ag⟩:=xE a.p;rw[<-ag] at ai ⊢;have bm:=hide ag;clear be hr2 da dx cL d0 U ag
 by_cases az:(namesT d.2 false).length=0
 ·have ay:Qg d ⟨au,aG,st⟩ σ=(⟨au,aG,st⟩,σ):=by unfold Qg;rw[if_pos az]
  rw[ay];clear ay;have z:=Oq (∀{G}(h:G:=by
  rw[az];have h2:=(el.later b6);have bM:=hide (stays b6 bj.out);have uV:=(Q9.of (o:=aA) (f:=aM) (aF.trans (b6.mono aF.size)) (O0 bG));obtain⟨aZ,p1,cK,cX,gV,pl⟩:=cells4 (stays b6 b8.out);obtain⟨cH,bU,cg,eE,eu,rl⟩:=cells4 bM.out;have dt:=eu 0;have du:=eu 1;have dv:=eu 2;have iT:=eu 3;have cl:bf≠aU:=Om tu;clear eu gV az;go_wp2_with fail;obtain⟨b1,bx⟩:=xE ((((w1.setCell (Ot aU 0) (Ol au)).setCell (Ot aU 1) (Ol aG)).setCell (Ot aU 2) (OC st)).setCell (Ot aU 3) (.pointer aB));rw[<-bx]
  have d1:=aat bM.out (Ol au) (Ol aG) (OC st) (.pointer aB);have gK:mb<=aU:=by have:=Om cR;omega
  have bi:=Uw bM.out gK (Ol au) (Ol aG) (OC st) (.pointer aB);have bF:=uV.new bi (U6 cR.out _ _ _ _);have bC:=h2.YC bi Oz;rw[<-bx] at d1 bF bC;obtain⟨cG,b4,bT,eg,_,_⟩:=cells4 d1;exact Vm (v:=PU ⟨au,aG,st⟩ aB) ⟨rfl,_,_,bC,bF⟩),G);exact aDe
 ·obtain⟨e6,lq⟩:=xE (σ.top:Int);have ay:Qg d ⟨au,aG,st⟩ σ=(⟨e6,aG,st⟩,U4 d ⟨e6,aG,st⟩ (Qz (Pv d.2) e6 (σ.opn au (-1) (own d)))):=by unfold Qg;rw[if_neg az,lq]
  rw[ay];clear ay;obtain⟨nl,ft⟩:=xE ((namesT d.2 false).length);have nF:=hide ft;have kr:¬ (nl:Int)=0:=Ou;clear ft az;obtain⟨ow,lV⟩:=xE (own d:Int);rw[<-lV];have z:=Oq (∀{G}(h:G:=by
  rw[<-nF.out];have h2:=(el.later b6);have bM:=hide (stays b6 bj.out);have gE:=hide (stays b6 b8.out);have ei:=hide (cells4 (stays b6 b8.out));have y1:=(k1.kp (Kp.of b6));have uV:=(Q9.of (o:=aA) (f:=aM) (aF.trans (b6.mono aF.size)) (O0 bG));have k5:=hide (fun X (ak:OD w1 X)=>YD yR (h2.later ak) (y1.kp (Kp.of ak)));rw[<-bm.out,<-lV] at k5;have ck:=hide (fun X (ak:OD w1 X)=>Y6 (h2.later ak) dW Ou au (-1) ow iZ);rw[<-lq] at ck;have n1:=h2.lt;have o0:=lt_of_heap gE.out
  have ni:q<w1.heap.size:=by rw[bm.out];exact y1.cells.1
  clear lV lq;go_wp2_with fail;have z:=Oq (∀{G}(h:G:=by
  have qt:=(Q9.of ab (O0 n1)).trans cS;have fM:=hide (qt.keep h2 gE.out Oz);have dp:=hide (qt.keep h2 bM.out Oz);have lI:=(y1.kp (qt.kp h2));have cQ:=(uV.trans qt);obtain⟨aZ,p1,cK,cX,gV,pl⟩:=cells4 fM.out;have z:=Oq (∀{G}(h:G:=by
  have f7:=(fc.YC lm Oz);have lk:=YE fM.out (Ol e6);have gw:Hid (bA.heap[aU]? = some (O1 #[Ol 0,Ol 0,OC false,Ri] 73)):=asi
  have z:=Oq (∀{G}(h:G:=by
  have uw:=dW.opn au (-1) ow;have Ht:=uw;have dU:=(afc f7 uw p2 Ou Ou e6);rw[<-bm.out] at dU;obtain⟨jz,kz,s2,pe,_,KX⟩:=cells4 lk;have gp:=f7.lt;clear fJ lk aZ p1 cK cX pd;go_wp2_with fail;refine cm dU ?_;rintro e b7 ⟨rfl,lZ,hc⟩;have CU:=lZ;have jd:=hide (hc.rest bf _ 73 kJ.out Oz);have fm:=hide (hc.rest aU _ 73 gw.out Oz);have nx:=(p2.kp (Py.kp hc));have gu:=(fF.trans (Q9.ofT hc));have sW:=Ht.lets (Pv d.2) e6;have iu:=TW d.2;have hV:=(akG lZ sW nx Ou Ou gY.out ⟨e6,aG,st⟩ aB)
  rw[<-bm.out] at hV;obtain⟨t0,nu,t2,t3,_,N6⟩:=cells4 jd.out;clear iu jz kz s2 pe;go_wp2_with fail;refine cm hV ?_;rintro e ch ⟨rfl,LY,o5,ji⟩;have g':=hide (ji.keep CU fm.out Oz);have ke:=(gu.trans ji);obtain⟨ho,gW,gC,kC,_,Oa⟩:=cells4 (ji.keep CU jd.out Oz);obtain⟨cH,bU,cg,eE,eu,rl⟩:=cells4 g'.out;have dt:=eu 0;have du:=eu 1;have dv:=eu 2;have iT:=eu 3;have cl:bf≠aU:=Om tu;clear t0 nu t2 t3 eu;go_wp2_with fail
  obtain⟨b1,bx⟩:=xE ((((ch.setCell (Ot aU 0) (Ol e6)).setCell (Ot aU 1) (Ol aG)).setCell (Ot aU 2) (OC st)).setCell (Ot aU 3) (.pointer aB));rw[<-bx];have d1:=aat g'.out (Ol e6) (Ol aG) (OC st) (.pointer aB);have gK:mb<=aU:=by have:=Om cR;omega
  have bi:=Uw g'.out gK (Ol e6) (Ol aG) (OC st) (.pointer aB);have bF:=ke.new bi (U6 cR.out _ _ _ _);have bC:=o5.YC bi Oz;rw[<-bx] at d1 bF bC;obtain⟨cG,b4,bT,eg,_,_⟩:=cells4 d1;exact Vm (v:=PU ⟨e6,aG,st⟩ aB) ⟨rfl,_,_,bC,bF⟩),G);exact aAR),G);exact awl),G);exact aAS),G);exact aDe),G);exact zsf),G);exact axz
end
section
variable {w0:Ov} {mb af:Nat} {O:List Nat} {es aW aC aA aM:OG} {w w':Ov} {σ:St} {N:Nat}
def Sz.dec {N:Nat}{σ:St}(h:Sz N σ)(s:Int)(nm:OH)(k:Int)(v:Va):Sz (N+1) (σ.dec s nm k v):=h.heap (Nat.le_succ _) (h.go.declare s nm k v) (Vu _ _ _ _ _)
def Sz.RG {N:Nat}{σ:St}(h:Sz N σ)(o:Int)(nm:OH)(v:Va)(fx:Bool):Sz (N+1) (σ.RG o nm v fx):=h.heap (Nat.le_succ _) (h.go.put o nm v fx) (aap _ _ _ _ _)
section
variable (ae:Mx w0 mb af O aW aC aA aM w σ) (aI:Sz N σ) (hN:N<1000000000)
include ae aI hN
theorem Xl (s:Int)(nm:OH)(k:Int)(v:Va) :
  OE 128 #[Oo mb,Ol s,OB nm,Ol k,vA v] w fun e w'=>e=OQ (Ur (σ.M.declare s nm k v).1)/\Mx w0 mb af O aW aC aA aM w' (σ.dec s nm k v)/\Py Th mb w w':=by
 refine(Xg ae.hh aI.go.sm (O0 hN) s nm k v).mono ?_;rintro e w' ⟨rfl,h1,U⟩;exact⟨rfl,ae.heap h1 U,U⟩
theorem YS (o:Int)(nm:OH)(v:Va)(fx:Bool) :
  OE 56 #[Oo mb,Ol o,OB nm,vA v,OC fx] w fun e w'=>e=OQ (Ur (σ.M.put o nm v fx).1)/\Mx w0 mb af O aW aC aA aM w' (σ.RG o nm v fx)/\Py Th mb w w':=by
 refine(aAP ae.hh aI.go.sm (O0 hN) o nm v fx).mono ?_;rintro e w' ⟨rfl,h1,U⟩;exact⟨rfl,ae.heap h1 U,U⟩
theorem aaq (c:Int) :
  OE 49 #[Oo mb,Ol c] w fun e w'=>e=OQ (Ol σ.M.objs.length)/\Mx w0 mb af O aW aC aA aM w' { σ with M:=σ.M.Pz c }/\Py Th mb w w':=by
 refine(ZE ae.hh aI.go.sm (O0 hN) c).mono ?_;rintro e w' ⟨rfl,h1,U⟩;exact⟨rfl,ae.heap h1 U,U⟩
end
def aoM (a8:Bs w0 mb af O es)(ae:Mx w0 mb af O aW aC aA aM w σ)(aI:Sz N σ){a:Ad}{d:Nd}(hd:OY O w a d)(E:d.2.kids.length=2)(hN:N+10000<1000000000)(p:Pl)(aB:Option Addr)(iZ:(σ.M.ro p.scope).isSome=true) :
  OE 265 #[Oo mb,Oo a.p,PU p aB] w fun e w'=>e=OQ (vA (Xi d p σ).1)/\∃ VA WI,Mx w0 mb af O aW aC VA WI w' (Xi d p σ).2/\Q9 mb aA aM VA WI w w':=by
 have bG:=ae.lt;obtain⟨au,aG,st⟩:=p;obtain⟨w2,bu⟩:=xH ((w.alloc (.cells #[Ol au,Ol aG,OC st,.pointer aB] 73)).alloc (.cells #[Ol 0,Ol 0,PN] 65));have z:=Oq (∀{G}(h:G:=by
 have hr2:w2.heap[aU]? = some (O1 #[Ol 0,Ol 0,PN] 65):=ash
 have z:=Oq (∀{G}(h:G:=by
 obtain⟨Jz,_,ss,_⟩:=hd.cells;obtain⟨dz,_,c1,_⟩:=(hd.kp (Kp.of aF)).cells;have el:=(ae.later aF);have k1:=(hd.kp (Kp.of aF));have b8:=hide be;have bj:=hide hr2;have cu:=(Q9.of (o:=aA) (f:=aM) aF (O0 bG));have cR:=hide cL;have sd:=hide dx;have tu:=hide d0;obtain⟨q,bm⟩:=xH a.p;obtain⟨tx,cD⟩:=xE d.2.tx;rw[<-bm.out] at dz c1 Jz ss ⊢;rw[<-cD] at c1 ss;have fi:=hide c1;clear c1;have di:=el.lt;have hpl2:=lt_of_heap be;clear hr2 dx cL d0
 by_cases h0:d.2.tx=Ox
 ·obtain⟨v,av⟩:=xE ((mkFun d ⟨au,aG,st⟩ σ).1);obtain⟨σ1,ic⟩:=xE ((mkFun d ⟨au,aG,st⟩ σ).2);have ay:Xi d ⟨au,aG,st⟩ σ=(v,σ1):=by unfold Xi;rw[if_pos h0,av,ic]
  rw[ay];have hV:=(ZI el k1 E aI Ou ⟨au,aG,st⟩ aB);rw[<-av,<-ic,<-bm.out] at hV;have JK:tx.toList.isEmpty=true:=by rw[cD,h0];decide +kernel
  obtain⟨aZ,p1,cK,cX,_,_⟩:=cells4 be;clear ay av ic h0 cD be;go_enter func265,ntmps265;go_wp2_with fail;rw[<-bu.out,<-b0,<-bV];clear bV b0;refine cm hV ?_;rintro e ap ⟨rfl,fU,fc,cS⟩;have eN:=fc;have dp:=hide (cS.keep el bj.out Oz);have cQ:=(cu.trans cS);have z:=Oq (∀{G}(h:G:=by
  clear aZ p1 cK cX;go_wp2_with fail;obtain⟨b1,bx⟩:=xE (((ap.setCell (Ot aU 0) (Ol v.k)).setCell (Ot aU 1) (Ol v.n)).setCell (Ot aU 2) (OB v.s));rw[<-bx];have d1:=ZJ dp.out (Ol v.k) (Ol v.n) (OB v.s);have gK:mb<=aU:=by have:=Om cR;omega
  have bi:=RJ dp.out gK (Ol v.k) (Ol v.n) (OB v.s);have bF:=cQ.new bi (Ua cR.out _ _ _);have bC:=eN.YC bi Oz;rw[<-bx] at d1 bF bC;obtain⟨cG,b4,bT,_,_⟩:=cells3 d1;exact WA (v:=vA v) ⟨rfl,_,_,bC,bF⟩),G);exact awk
 ·obtain⟨e6,lq⟩:=xE (σ.top:Int);obtain⟨ow,lV⟩:=xE (own d:Int);obtain⟨uK,zE⟩:=xH (σ.opn au (-1) ow);obtain⟨v,av⟩:=xE ((mkFun d ⟨e6,aG,st⟩ uK).1);obtain⟨σ1,ic⟩:=xE ((mkFun d ⟨e6,aG,st⟩ uK).2);have ay:Xi d ⟨au,aG,st⟩ σ=(v,σ1.dec e6 tx 3 v):=by unfold Xi;rw[if_neg h0,av,ic,zE.out,lq,lV,cD]
  rw[ay];have JK:tx.toList.isEmpty=false:=by rw[adT,cD];exact decide_eq_false h0
  have ei:=hide (cells4 be);have k5:=hide (fun X (ak:OD w2 X)=>YD a8 (el.later ak) (k1.kp (Kp.of ak)));rw[<-bm.out,<-lV] at k5;have ck:=hide (fun X (ak:OD w2 X)=>Y6 (el.later ak) aI Ou au (-1) ow iZ);rw[<-lq,<-zE.out] at ck;have iU:=hide ic;have bJ:=hide av;clear ay lV lq h0 cD ic av be;go_enter func265,ntmps265;go_wp2_with fail;rw[<-bu.out,<-b0,<-bV];clear bV b0;have z:=Oq (∀{G}(h:G:=by
  have qt:=(Q9.of ab (O0 di)).trans cS;have eN:=fc;have fM:=hide (qt.keep el b8.out Oz);have dp:=hide (qt.keep el bj.out Oz);have lI:=(k1.kp (qt.kp el));have cQ:=(cu.trans qt);obtain⟨aZ,p1,cK,cX,gV,pl⟩:=cells4 fM.out;have z:=Oq (∀{G}(h:G:=by
  have f7:=(eN.YC lm Oz);have lk:=YE fM.out (Ol e6);have gw:Hid (bA.heap[aU]? = some (O1 #[Ol 0,Ol 0,PN] 65)):=asi
  have z:=Oq (∀{G}(h:G:=by
  have uw:=aI.opn au (-1) ow;rw[<-zE.out] at uw;have sW:=uw.mkFun d ⟨e6,aG,st⟩;rw[<-iU.out] at sW;have dU:=(ZI f7 p2 E uw Ou ⟨e6,aG,st⟩ aB);rw[<-bJ.out,<-iU.out,<-bm.out] at dU;obtain⟨jz,kz,s2,pe,_,KX⟩:=cells4 lk;have gp:=f7.lt;clear fJ lk aZ p1 cK cX pd;go_wp2_with fail;refine cm dU ?_;rintro e b7 ⟨rfl,H2,lZ,hc⟩;have jd:=hide (hc.keep f7 kJ.out Oz);have fm:=hide (hc.keep f7 gw.out Oz);have nx:=(p2.kp (hc.kp f7));have gu:=(fF.trans hc);clear jz kz s2 pe;go_wp2_with fail
  obtain⟨ch,g6⟩:=xE (b7.alloc (.cells #[Ol v.k,Ol v.n,OB v.s] 65));rw[<-g6];have e4:OD b7 ch:=by rw[g6];exact PO
  have wL:ch.heap[b7.heap.size]? = some (O1 #[Ol v.k,Ol v.n,OB v.s] 65):=by rw[g6];exact OA _ _
  obtain⟨vb,aV⟩:=xE b7.heap.size;rw[<-aV] at wL ⊢;have mg:=(lZ.later e4);have rr:=mg.lt;have l9:=hide (stays e4 jd.out);have GI:=hide (cells4 (stays e4 jd.out));have g':=hide (stays e4 fm.out);have ke:=(gu.trans (Q9.of e4 (O0 lZ.lt)));have q4:=hide wL;have gh:=hide (cells3 wL);have M':q<ch.heap.size:=by rw[bm.out];exact(nx.kp (Kp.of e4)).cells.1
  have D1:ch.cell? (Ot q 1)=some (OB tx):=by
   have h1:=(nx.kp (Kp.of e4)).cells.2.2.1;have U:=k1.cells.2.2.1;rw[<-bm.out] at h1 U;have aw:=Om fi;rw[U] at aw;cases aw;exact h1
  have tl:=hide D1;have Jt:=lt_of_heap l9.out;have Nt:=lt_of_heap wL;have tm:=hide (fun X (ak:OD ch X)=>Xl (mg.later ak) sW Ou e6 tx 3 v);clear wL aV g6 D1;refine TI 10 fun ab=>?_;have z:=Oq (∀{G}(h:G:=by
  refine up 3 bf 0 ab ?_;refine uk 4 (GI.out.1) ab ?_;refine up 5 q 0 ab ?_;refine up 6 q 0 ab ?_;refine up 7 q 1 ab ?_;refine uk 8 tl.out ab ?_;refine uk3 9 gh.out ab ?_;refine P5 10 fun K A=>?_;go_simp;refine cm (Om tm _ ab) ?_;rintro e dT ⟨rfl,rA,m'⟩;refine ko A ?_;clear A K;have AG:=(Py.of (T:=Th) ab (O0 rr)).trans m';have qg:=hide rA;have k7:=hide (AG.rest aU _ 65 g'.out Oz);have ny:=hide (ke.trans (Q9.ofT AG));obtain⟨v0,v1,v2,_,vl⟩:=cells3 (AG.rest vb _ 65 q4.out Oz);refine Sl ?_ _
  obtain⟨cH,bU,cg,eu,rl⟩:=cells3 k7.out;have dt:=eu 0;have du:=eu 1;have dv:=eu 2;clear eu;go_simp;go_wp2_with fail;obtain⟨b1,bx⟩:=xE (((dT.setCell (Ot aU 0) (Ol v.k)).setCell (Ot aU 1) (Ol v.n)).setCell (Ot aU 2) (OB v.s));rw[<-bx];have d1:=ZJ k7.out (Ol v.k) (Ol v.n) (OB v.s);have gK:mb<=aU:=by have:=Om cR;omega
  have bi:=RJ k7.out gK (Ol v.k) (Ol v.n) (OB v.s);have bF:=ny.out.new bi (Ua cR.out _ _ _);have bC:=qg.out.YC bi Oz;rw[<-bx] at d1 bF bC;obtain⟨cG,b4,bT,_,_⟩:=cells3 d1;exact WA (v:=vA v) ⟨rfl,_,_,bC,bF⟩),G);exact Un),G);exact aAR),G);exact awl),G);exact aAS),G);exact zsf),G);exact zsc
def Ms (w0:Ov)(mb af:Nat)(O:List Nat)(w:Ov)(σ:St):Prop:=∃ aW aC aA aM,Mx w0 mb af O aW aC aA aM w σ
abbrev Y7 (v:Va):Obj:=O1 #[Ol v.k,Ol v.n,OB v.s] 65
variable {w2:Ov}{L:Option Nat}
def Ms.lt (h:Ms w0 mb af O w σ):mb<w.heap.size:=by obtain⟨_,_,_,_,h⟩:=h;exact h.lt
def Ms.later (h:Ms w0 mb af O w σ)(D:OD w w'):Ms w0 mb af O w' σ:=by obtain⟨_,_,_,_,h⟩:=h;exact⟨_,_,_,_,h.later D⟩
def Ms.YC {T:List TypeId}(h:Ms w0 mb af O w σ)(f:Py T mb w w')(dY:∀ e ∈ T,e ∉ Tm/\e≠40/\e≠22):Ms w0 mb af O w' σ:=by obtain⟨_,_,_,_,h⟩:=h;exact⟨_,_,_,_,h.YC f dY⟩
def Ms.below (h:Ms w0 mb af O w σ):Below mb w0 w:=by obtain⟨_,_,_,_,h⟩:=h;exact h.bw
def O5.newT {T:List TypeId}(h:O5 L mb w w')(k:Py T mb w' w2)(E:∀ b,b<w.heap.size->w2.heap[b]? = w'.heap[b]?):O5 L mb w w2:=
 ⟨h.below.trans k.below,fun b c e D aq hl=>by rw[E b (lt_of_heap D)];exact h.rest b c e D aq hl⟩
def O5.keep (h:O5 none mb w w'){b:Nat}{c:Array OG}{t:TypeId}(D:w.heap[b]? = some (O1 c t))(bc:t ∉ Tm):w'.heap[b]? = some (O1 c t):=h.rest b c t D bc O8
def O5.UD (h:O5 none mb w w'):Kp w w':=h.kp (fun b e=>by cases e)
def Xm.Qw {v:OG}{e:Er}{T:List TypeId}(h:Xm es w v e)(aH:Py T mb w w')(dY:126 ∉ T):Xm es w' v e:=by
 cases e with
 | no=>exact h
 | stop=>exact h
 | mis=>exact h
 | XU x=>
  obtain⟨b,h1,U⟩:=h;exact⟨b,h1,aH.rest b _ _ U dY⟩
def Zp (v:OG):Prop:=∃ t x,v=.iface t x
def Xm.WT {v:OG}{e:Er}(h:Xm es w v e)(aq:e≠.no)(ac:Zp es):Zp v:=by
 cases e with
 | no=>exact absurd rfl aq
 | stop=>rw[show v=es from h];exact ac
 | mis=>exact⟨_,_,h⟩
 | XU x=>obtain⟨b,h1,_⟩:=h;exact⟨_,_,h1⟩
structure VB (w0:Ov)(mb af:Nat)(O:List Nat)(es:OG)(w2:Ov)(v:Va)(e:Er)(σ:St)(wz:Ov)(vb:Nat)(ev:OG):Prop where
 v:wz.heap[vb]? = some (Y7 v)
 vb:w2.heap.size<=vb
 er:Xm es wz ev e
 ms:Ms w0 mb af O wz σ
 fr:O5 none mb w2 wz
def VB.late {aE:Ov}{ev:OG}{v:Va}{e:Er}(aD:Xm es aE ev e)(aJ:Ms w0 mb af O aE σ)(ah:O5 none mb w2 aE):VB w0 mb af O es w2 v e σ (aE.alloc (.cells #[Ol v.k,Ol v.n,OB v.s] 65)) aE.heap.size ev:=by
 have D:OD aE (aE.alloc (.cells #[Ol v.k,Ol v.n,OB v.s] 65)):=PO;exact⟨OA _ _,ah.below.size,aD.later D,aJ.later D,ah.trans (O5.of D (O0 aJ.lt))⟩
def VB.early {aE:Ov}{ev x y bD:OG}{v:Va}{e:Er}{vb:Nat}(av:aE.heap[vb]? = some (O1 #[x,y,bD] 65))(aV:w2.heap.size<=vb)(aS:mb<=w2.heap.size)(aD:Xm es aE ev e)(aJ:Ms w0 mb af O aE σ)(ah:O5 none mb w2 aE) :
  VB w0 mb af O es w2 v e σ (((aE.setCell (Ot vb 0) (Ol v.k)).setCell (Ot vb 1) (Ol v.n)).setCell (Ot vb 2) (OB v.s)) vb ev:=by
 have aH:=RJ av (Nat.le_trans aS aV) (Ol v.k) (Ol v.n) (OB v.s);exact⟨ZJ av _ _ _,aV,aD.Qw aH Oz,aJ.YC aH Oz,ah.newT aH (Ua aV _ _ _)⟩
def VN {H G:Ov->Nat->OG->Prop}{goal:Prop}(h1:(∀ w v u,H w v u->G w v u)->goal)(U:∀ w v u,H w v u->G w v u):goal:=h1 U
def O3 (w0:Ov)(mb af:Nat)(O:List Nat)(es:OG)(w:Ov)(r:(Va × Er) × St)(e:Ending)(w':Ov):Prop:=
 (∃ ev,e=OQ (.tuple #[vA r.1.1,ev])/\Xm es w' ev r.1.2)/\Ms w0 mb af O w' r.2/\O5 none mb w w'
section
variable (h:Mx w0 mb af O aW aC aA aM w σ)
include h
theorem Mx.aAT (x:Int × Int){ap:Ov}{sv':OG}(hg:w.grownBy ap aC.ownBlock)(aR:ap.ownsRow mb 54 2 sv' (σ.seen.length+1) (σ.seen.flatMap sn2++sn2 x)) :
  Mx w0 mb af O aW sv' aA aM (ap.setCell (Ot mb 6) sv') { σ with seen:=σ.seen++[x] }/\O5 none mb w (ap.setCell (Ot mb 6) sv'):=by
 have d5:Py [54] mb w ap:=Py.grown hg (O0 h.lt) fun k E=>by
  obtain⟨c,aj⟩:=Qc h.se E;exact⟨(h.se.lt k E).1,c,54,aj,by simp⟩
 have kU:=h.hh.keep d5 Oz Oz Oz Oz Oz;obtain⟨lT,dX⟩:=kU.cell 4 sv';have g1:Py [54,84] mb w (ap.setCell (Ot mb 6) sv'):=(d5.mono Oz O6).trans (dX.mono Oz O6);obtain⟨d6,h1,U,aw⟩:=h.fu
 refine⟨⟨h.bw.trans g1.below,lT,OW h.lg g1 Oz,?_,OW h.ow g1 Oz,d6,h1,OW U g1 Oz,fun i a f ax gj=>(aw i a f ax gj).kp (fun b c e D aq=>g1.rest b c e D (by rcases aq with rfl|rfl <;> decide))⟩,⟨g1.below,fun b c e D aq _=>g1.rest b c e D (fun q=>aq (by rcases List.mem_cons.1 q with rfl|q;decide;rw[List.mem_singleton.1 q];decide))⟩⟩
 have bE:=OW aR dX Oz
 show World.ownsRow _ _ _ _ _ (σ.seen++[x]).length ((σ.seen++[x]).flatMap sn2)
 rw[List.length_append,List.flatMap_append];simpa using bE
theorem Mx.aAU (x:OH){ap:Ov}{lv':OG}(hg:w.grownBy ap aW.ownBlock)(aR:ap.ownsRow mb 9 1 lv' (σ.log.length+1) (σ.log.map Value.string++[OB x])) :
  Mx w0 mb af O lv' aC aA aM (ap.setCell (Ot mb 2) lv') { σ with log:=σ.log++[x] }/\O5 none mb w (ap.setCell (Ot mb 2) lv'):=by
 have d5:Py [9] mb w ap:=Py.grown hg (O0 h.lt) fun k E=>by
  obtain⟨c,aj⟩:=Qc h.lg E;exact⟨(h.lg.lt k E).1,c,9,aj,by simp⟩
 have kU:=h.hh.keep d5 Oz Oz Oz Oz Oz;obtain⟨lT,dX⟩:=kU.cell 0 lv';have g1:Py [9,84] mb w (ap.setCell (Ot mb 2) lv'):=(d5.mono Oz O6).trans (dX.mono Oz O6);obtain⟨d6,h1,U,aw⟩:=h.fu
 refine⟨⟨h.bw.trans g1.below,lT,?_,OW h.se g1 Oz,OW h.ow g1 Oz,d6,h1,OW U g1 Oz,fun i a f ax gj=>(aw i a f ax gj).kp (fun b c e D aq=>g1.rest b c e D (by rcases aq with rfl|rfl <;> decide))⟩,⟨g1.below,fun b c e D aq _=>g1.rest b c e D (fun q=>aq (by rcases List.mem_cons.1 q with rfl|q;decide;rw[List.mem_singleton.1 q];decide))⟩⟩
 have bE:=OW aR dX Oz
 show World.ownsRow _ _ _ _ _ (σ.log++[x]).length ((σ.log++[x]).map _)
 rw[List.length_append,List.map_append];exact bE
end
def awn:(prog.info? 54).map (fun i=>(i.zero,i.size,i.bytes))=some (some (.agg #[Ol 0,Ol 0]),2,16):=by kernel_rfl
def aoN (w:Ov)(H:Nat)(fs:w.heap.size=H)(a b:Int)(j:Nat)(u:OG)(h:([Ol a,Ol b]:List OG)[j]? = some u) :
  (w.alloc (.cells #[Ol a,Ol b] 54)).cell? (((Ot H 0):Addr).add j)=some u:=by
 subst fs
 rcases j with _|_|j <;> simp at h
 all_goals subst h;simp[Addr.add]
def awo (a b:Int):∀ u ∈ ([Ol a,Ol b]:List OG),u.oneCell'=true:=by
 intro u aT;simp at aT
 rcases aT with rfl|rfl <;> rfl
def aoO (M:Mo)(nm:OH):∀ (f:Nat) (i:Int),M.fnd nm f i = -1\/∃ k:Nat,M.fnd nm f i=k/\k<M.OI.length
 | 0,_=>.inl rfl
 | f+1,i=>by
  rw[Mo.fnd]
  rcases P7 M i with ⟨h0,_⟩|⟨k,x,rfl,ae,h1⟩
  ·rw[h0];exact .inl rfl
  ·rw[h1]
   show (if M.has k nm=true then (k:Int) else M.fnd nm f x.outer) = -1\/_
   split
   ·right;refine⟨k,?_,(List.getElem?_eq_some_iff.1 ae).1⟩;simp[*]
   ·rename_i hh
    simp only[];exact aoO M nm f x.outer
def asj (M:Mo)(i:Int)(nm:OH):M.find i nm = -1\/∃ k:Nat,M.find i nm=k/\k<M.OI.length:=aoO _ _ _ _
