import Derived.Test.YticfnaiehdpbmaaGreatDoorFa12
import Derived.Test.YticfnaiehdpbmaaGreatDoorFa16
import Derived.Test.YticfnaiehdpbmaaGreatDoorFa15
import Derived.Lib.ItoaNum
set_option maxRecDepth 100000
set_option maxHeartbeats 0
set_option linter.all false
namespace Go.Proofs.YticfnaiehdpbmaaGreatDoor
open Go.RowKit Go.Proofs.Tryz
namespace Hp
instance:DecidableEq Va:=λa b=>decidable_of_iff (a.k=b.k/\a.n=b.n/\a.s=b.s) ⟨λ⟨e,c,d⟩=>by cases a;cases b;simp_all,λh=>by subst h;exact⟨rfl,rfl,rfl⟩⟩
def vU:Va:=⟨0,0,O8⟩
def oR:Va:=⟨1,0,O8⟩
def QE (a:Bool):Va:=⟨2,if a then 1 else 0,O8⟩
def WT (a:Int):Va:=⟨3,a,O8⟩
def Vk (a:Py):Va:=⟨4,0,a⟩
def UH (a:Int):Va:=⟨5,a,O8⟩
def Va.iU (a:Va):Bool:=if a.k=0\/a.k=1 then false else if a.k=2\/a.k=3 then a.n != 0 else if a.k=4 then !decide (a.s=O8) else true
abbrev RZ:Py:=⟨#[114,101,102,101,114,101,110,99,101]⟩
abbrev gB:Py:=⟨#[116,121,112,101]⟩
abbrev Vd:Py:=⟨#[114,97,110,103,101]⟩
abbrev U1:Py:=⟨#[115,121,110,116,97,120]⟩
abbrev QX:Py:=⟨#[117,110,100,101,102,105,110,101,100]⟩
abbrev qa:Py:=⟨#[110,117,108,108]⟩
abbrev n8:Py:=⟨#[116,114,117,101]⟩
abbrev Yk:Py:=⟨#[102,97,108,115,101]⟩
abbrev QL:Py:=⟨#[102,117,110,99,116,105,111,110]⟩
abbrev Xy:Py:=⟨#[111,98,106,101,99,116]⟩
abbrev XV:Py:=⟨#[98,111,111,108,101,97,110]⟩
abbrev vv:Py:=⟨#[110,117,109,98,101,114]⟩
abbrev sl:Py:=⟨#[115,116,114,105,110,103]⟩
abbrev Zz:Py:=⟨#[108,101,110,103,116,104]⟩
abbrev XL:Py:=⟨#[112,114,105,110,116]⟩
def UN (a:Int):Py:=⟨(Lib.itoa a).toArray⟩
def XI (a b:Py):Py:=⟨(a.data.toList++b.data.toList).toArray⟩
def YI:List Py->Py
 | []=>O8
 | [a]=>a
 | a::b=>XI a (XI ⟨#[32]⟩ (YI b))
def Mo.hu (b:Mo)(a:Va):Py:=
 if a.k=0 then QX else if a.k=1 then qa else if a.k=2 then (if a.iU then n8 else Yk) else if a.k=3 then UN a.n else if a.k=4 then a.s else if a.k=5 then (if b.gn a.n≠0 then QL else Xy) else O8
inductive Er where
 | no
 | stop
 | Yq (v:Va)
 | ir
def m4 (a:Int):Er:=if a=0 then .no else .ir
abbrev f0 (a:Py):Er:=.Yq (Vk a)
abbrev Nd:=Option Nat × Tr
structure Fu where
 d:Nd
 scope:Int
 fT:Bool
structure Pl where
 scope:Int
 gh:Int
 fT:Bool
structure St where
 M:Mo
 hq:List Py
 steps:Nat
 seen:List (Int × Int)
 Rx:List Int
 Ri:List Fu
 fO:Nat
def Vj:Option Nat->List Tr->List Nd
 | _,[]=>[]
 | no,a::b=>(no,a)::Vj (no.map (· + a.count)) b
abbrev QB (a:Nd):List Nd:=Vj (a.1.map (· + 1)) a.2.fJ
abbrev na:Nd:=(none,.mk 22 O8 0 [])
abbrev Pg (a:Nd)(b:Nat):Nd:=(QB a).getD b na
def own (a:Nd):Int:=match a.1 with
 | some b=>b
 | none=>-3
def St.gq (a:St)(d b c:Int):St:={ a with M:=a.M.scope d b,Rx:=a.Rx++[c] }
abbrev St.gg (a:St):Int:=a.M.Pz.length
def St.step (a:St):St:={ a with steps:=a.steps+1 }
def f5 (b:Nd)(c:Pl)(a:St):Va × St:=
 (UH a.M.objs.length,{ a with Ri:=a.Ri++[⟨b,c.scope,c.fT||PO (Pg b 1).2⟩],M:=a.M.Qj (3+a.Ri.length) })
def St.hi (a:St)(d:Int)(c:Py)(b:Int)(e:Va):St:={ a with M:=(a.M.f4 d c b e).2 }
def St.Rj (a:St)(c:Int)(b:Py)(d:Va)(fx:Bool):St:={ a with M:=(a.M.put c b d fx).2 }
def VI (a:Nd)(b:Pl)(d:St):Va × St:=
 if a.2.tx=O8 then f5 a b d else
  let e:=d.gg
  let f:=d.gq b.scope (-1) (own a)
  let c:=f5 a { b with scope:=e } f
  (c.1,c.2.hi e a.2.tx 3 c.1)
def settle (c:Int)(b:Py)(d:Va)(a:St):St:=
 if (a.M.f4 c b 0 d).1=0 then a.hi c b 0 d else { a with M:=(a.M.write c b d).2 }
def QS (d:List Tr)(c:Int)(a:St):St:=d.foldl (λa b=>a.hi c b.tx (if b.kd=4 then 2 else 1) vU) a
def Ul (a:Nd):List Nd:=(QB a).filter λb=>SH b.2
def Ut (e:Nd)(c:Pl)(a:St):St:=(Ul e).foldl (λa b=>let d:=f5 b c a;settle c.scope b.2.tx d.1 d.2) a
def QI (b:Nd)(a:St):Pl × St:=
 let g:=(Qv b.2).foldl (λa c=>if a.M.has 0 c then a else a.Rj 0 c vU true) a
 let f:=QS (Qd b.2) 1 g
 let d:Pl:=⟨1,0,PO b.2⟩
 (d,(Ul b).foldl (λa c=>let e:=f5 c d a;e.2.Rj 0 c.2.tx e.1 true) f)
def hasArgs (c:List Tr)(a:Tr):Bool:=!(c.any λb=>decide (b.tx=g2)) && !hasB (gI a false) g2
def SE (c:List Va)(a:St):Va × St:=
 let b:Int:=a.M.objs.length
 let f:=({ a with M:=a.M.Qj 0 }:St).Rj b Zz (WT c.length) false
 (UH b,(c.zipIdx).foldl (λa (e,d)=>a.Rj b (XI ⟨#[97]⟩ (UN d)) e false) f)
def S9 (e:Nd)(a:Pl)(d:List Va)(b:St):St:=
 let f:=(Pg e 0).2.fJ
 let c:=Pg e 1
 let i:=(f.zipIdx).foldl (λb (l,k)=>settle a.scope l.tx (d.getD k vU) b) b
 let j:=if hasArgs f c.2 then let g:=SE d i;g.2.hi a.scope g2 0 g.1 else i
 let m:=(Qv c.2).foldl (λb k=>b.hi a.scope k 0 vU) j
 Ut c a (QS (Qd c.2) a.scope m)
def Qu (a:Nd)(b:Pl)(c:St):Pl × St:=
 if (gI a.2 false).length=0 then (b,c) else
  let e:=c.gg
  let d:={ b with scope:=e }
  (d,Ut a d (QS (Qd a.2) e (c.gq b.scope (-1) (own a))))
def look (c:Nd)(p:Pl)(a:St):Int × St:=
 let b:=a.M.find p.scope c.2.tx
 (b,match c.1 with
  | some d=>if b≠-1 then { a with seen:=a.seen++[((d:Int),a.Rx.getD b.toNat 0)] } else a
  | none=>a)
def XJ (e:Int)(c:Py)(d:Va)(fT:Bool)(b:St):Er × St:=
 if fT then (f0 RZ,b) else
  let a:=b.M.SI e
  (m4 (b.M.put (if a = -1 then 0 else a) c d false).1,b.Rj (if a = -1 then 0 else a) c d false)
def YV (d:Int)(c:Py)(e:Va)(fT:Bool)(f:St):Er × St:=
 let a:=f.M.write d c e
 let b:St:={ f with M:=a.2 }
 if a.1=7 then XJ d c e fT b else if a.1=6 then (f0 RZ,b) else if a.1=1 then (f0 gB,b) else if a.1=5 then (if fT then f0 gB else .no,b) else (.no,b)
def UO (b:Mo)(a:Va):Py:=if a.k=0 then QX else if a.k=2 then XV else if a.k=3 then vv else if a.k=4 then sl else if a.k=5/\b.gn a.n≠0 then QL else Xy
def Vl (a:Int):Va × Er:=if a < -1000000000\/1000000000<a then (vU,f0 Vd) else (WT a,.no)
def Wl (d:Mo)(c:Int)(a b:Va):Va × Er:=
 if c=27 then (QE (decide (a=b)),.no)
 else if a.k=3/\b.k=3 then (if c=28 then (QE (decide (a.n<b.n)),.no) else if c=29 then Vl (a.n+b.n) else if c=30 then Vl (a.n - b.n) else Vl (a.n * b.n))
 else if c=29/\(a.k=4\/b.k=4) then (if 500<(d.hu a).size+(d.hu b).size then (vU,f0 Vd) else (Vk (XI (d.hu a) (d.hu b)),.no))
 else if c=28/\a.k=4/\b.k=4 then (QE (decide (a.s.data.toList<b.s.data.toList)),.no)
 else (vU,f0 gB)
structure Oc where
 ret:Bool
 v:Va
abbrev RS:Oc:=⟨false,vU⟩
structure Fx where
 v:Nd->Pl->St->(Va × Er) × St
 s:Nd->Pl->Option Va->St->(Oc × Er × Option Va) × St
section
variable (b:Fx)
def UD (e:Pl):List Nd->List Va->St->(List Va × Er) × St
 | [],a,c=>((a,.no),c)
 | g::f,a,c=>match b.v g e c with
  | ((i,.no),d)=>UD e f (a++[i]) d
  | ((_,i),d)=>(([],i),d)
def SG (f:Pl):List Nd->Option Va->St->(Oc × Er × Option Va) × St
 | [],a,c=>((RS,.no,a),c)
 | j::i,a,c=>match b.s j f a c with
  | ((e,.no,d),g)=>if e.ret then ((e,.no,d),g) else SG f i d g
  | d=>d
def within (a:St)(d:St->(Va × Er) × St):(Va × Er) × St:=
 if a.fO=40 then ((vU,f0 Vd),a) else
  let c:=d { a with fO:=a.fO+1 }
  (c.1,{ c.2 with fO:=c.2.fO - 1 })
def WG (a:Fu)(g:List Va)(c:St):(Va × Er) × St:=within c λc=>
 let f:=c.gg
 let i:=c.gq a.scope (-1) (own a.d)
 let e:Pl:=⟨f,f,a.fT⟩
 let d:=SG b e (QB (Pg a.d 1)) none (S9 a.d e g i)
 ((d.1.1.v,d.1.2.1),d.2)
def Tv (a:Tr):List Py:=Qv a++(Uj a).map Tr.tx
def oQ (c:Mo)(d:Py)(stop:Int):Nat->Int->Bool
 | 0,_=>false
 | e+1,a=>if a = -1 then false else if c.kindOf a d=1\/c.kindOf a d=2 then true else if a=stop then false else oQ c d stop e (c.hA a)
def hidden (a:Mo)(e:Tr)(c:Pl):Bool:=(Tv e).any λd=>oQ a d c.gh (a.Pz.length+1) c.scope
def gA (c:Int)(d:Py)(a:St):St:=if a.M.has c d then a else if a.M.SI c≠-1 then a.Rj (a.M.SI c) d vU false else a.hi c d 4 vU
def PI (c:Nd)(d:Pl)(a:St):Pl × St:=
 let f:=(Tv c.2).foldl (λa g=>gA d.gh g a) a
 let e:Pl × St:=if 0<(Qd c.2).length then ({ d with scope:=f.gg },QS (Qd c.2) f.gg (f.gq d.scope (-1) (-3))) else (d,f)
 (e.1,(Ul c).foldl (λa i=>let g:=f5 i e.1 a;{ g.2 with M:=(g.2.M.write e.1.gh i.2.tx g.1).2 }) e.2)
def Xk (c:Nd)(d:Pl)(a:St):(Va × Er) × St:=
 let f:=d.fT||PO c.2
 if !f&&hidden a.M c.2 { d with fT:=f } then ((vU,f0 U1),a) else
  let i:Pl × St:=if f then (⟨a.gg,a.gg,true⟩,a.gq d.scope (-1) (-3)) else ({ d with fT:=f },a)
  let g:=PI c i.1 i.2
  let e:=SG b g.1 (QB c) (some vU) g.2
  match e.1.2.1 with
  | .no=>((e.1.2.2.getD vU,.no),e.2)
  | j=>((vU,j),e.2)
def XA (callee:Tr)(g:Pl)(f:List Va)(a:St):(Va × Er) × St:=
 match f with
 | []=>((vU,.no),a)
 | c::_=>if c.k≠4 then ((c,.no),a) else
  let d:Pl:=if callee.kd≠23\/callee.tx≠Vs then ⟨1,0,false⟩ else g
  within a λa=>match TD RH Ru c.s with
   | .ok e=>match g5 e d.fT false false with
    | none=>Xk b (none,e) d a
    | some _=>((vU,f0 U1),a)
   | _=>((vU,f0 U1),a)
def YH (e:Nd)(g:Pl)(j:St):(Va × Er) × St:=
 match UD b g (QB e) [] j with
 | ((f::d,.no),a)=>
  if f.k≠5 then ((vU,f0 gB),a) else
  let c:=a.M.gn f.n
  if c=0 then ((vU,f0 gB),a)
  else if c=1 then ((vU,.no),{ a with hq:=a.hq++[YI (d.map a.M.hu)] })
  else if c=2 then XA b (Pg e 0).2 g d a
  else match a.Ri[(c - 3).toNat]? with
   | some i=>WG b i d a
   | none=>((vU,.no),a)
 | ((_,c),a)=>((vU,c),a)
def UJ (d:Nd)(e:Pl)(f:St):(Int × Er) × St:=match b.v d e f with
 | ((c,.no),a)=>if c.k≠5 then ((-1,f0 gB),a) else ((c.n,.no),a)
 | ((_,c),a)=>((-1,c),a)
def Y7 (f:Pl)(a:Int):List Nd->St->(Va × Er) × St
 | [],c=>((UH a,.no),c)
 | e::i,c=>match b.v (Pg e 0) f c with
  | ((g,.no),d)=>Y7 f a i (d.Rj a e.2.tx g false)
  | ((_,g),d)=>((vU,g),d)
def n0 (i:Nd)(g:Pl)(l:St):(Va × Er) × St:=
 let c:=Pg i 0
 if c.2.kd=36 then
  match b.v (Pg c 0) g l with
  | ((j,.no),a)=>match b.v (Pg i 1) g a with
   | ((d,.no),e)=>if j.k≠5 then ((vU,f0 gB),e) else ((d,m4 (e.M.put j.n c.2.tx d false).1),e.Rj j.n c.2.tx d false)
   | ((_,f),e)=>((vU,f),e)
  | ((_,f),a)=>((vU,f),a)
 else
  let k:=look c g l
  match b.v (Pg i 1) g k.2 with
  | ((d,.no),a)=>let e:=YV k.1 c.2.tx d g.fT a;((d,e.1),e.2)
  | ((_,f),a)=>((vU,f),a)
def lE (i:Nd)(f:Pl)(e:St):(Va × Er) × St:=
 let c:=Pg i 0
 if c.2.kd=23 then
  let d:=e.M.drop (e.M.find f.scope c.2.tx) c.2.tx
  ((QE d.1,.no),{ e with M:=d.2 })
 else if c.2.kd=36 then
  match UJ b (Pg c 0) f e with
  | ((j,.no),a)=>let d:=a.M.cut j c.2.tx;if !d.1&&f.fT then ((vU,f0 gB),{ a with M:=d.2 }) else ((QE d.1,.no),{ a with M:=d.2 })
  | ((_,g),a)=>((vU,g),a)
 else match b.v c f e with
  | ((_,.no),a)=>((QE true,.no),a)
  | ((_,g),a)=>((vU,g),a)
def YR (e:Nd)(f:Pl)(m:St):(Va × Er) × St:=
 let c:=m.step
 let a:=e.2
 if 20000<c.steps then ((vU,.stop),c)
 else if a.kd=17 then ((WT a.n,.no),c)
 else if a.kd=18 then ((Vk a.tx,.no),c)
 else if a.kd=19\/a.kd=20 then ((QE (decide (a.kd=19)),.no),c)
 else if a.kd=21 then ((oR,.no),c)
 else if a.kd=23 then
  let g:=look e f c
  let x:=g.2.M.read g.1 a.tx
  if x.2=0 then ((x.1,.no),g.2) else ((vU,f0 RZ),g.2)
 else if a.kd=24 then n0 b e f c
 else if a.kd=25\/a.kd=26 then match b.v (Pg e 0) f c with
  | ((j,.no),d)=>if j.iU=decide (a.kd=25) then ((j,.no),d) else b.v (Pg e 1) f d
  | g=>g
 else if 27<=a.kd/\a.kd<=31 then match UD b f (QB e) [] c with
  | ((k::l::_,.no),d)=>(Wl d.M a.kd k l,d)
  | ((_,i),d)=>((vU,i),d)
 else if a.kd=32 then match b.v (Pg e 0) f c with
  | ((j,.no),d)=>((QE (!j.iU),.no),d)
  | ((_,i),d)=>((vU,i),d)
 else if a.kd=33 then
  if (Pg e 0).2.kd=23/\c.M.find f.scope (Pg e 0).2.tx = -1 then ((Vk QX,.no),c)
  else match b.v (Pg e 0) f c with
   | ((j,.no),d)=>((Vk (UO d.M j),.no),d)
   | ((_,i),d)=>((vU,i),d)
 else if a.kd=34 then lE b e f c
 else if a.kd=35 then YH b e f c
 else if a.kd=36 then match UJ b (Pg e 0) f c with
  | ((k,.no),d)=>((((d.M.gv k a.tx).map Pr.v).getD vU,.no),d)
  | ((_,i),d)=>((vU,i),d)
 else if a.kd=37 then let g:=VI e f c;((g.1,.no),g.2)
 else if a.kd=38 then Y7 b f c.M.objs.length (QB e) { c with M:=c.M.Qj 0 }
 else ((vU,.no),c)
def U8 (c:List Nd)(e:Pl)(a:St):(Va × Er) × St:=match c with
 | []=>((vU,.no),a)
 | d::_=>b.v d e a
def Yp (d:Nd)(e:Pl):Nat->Option Va->St->(Oc × Er × Option Va) × St
 | 0,a,f=>((RS,.stop,a),f)
 | k+1,a,f=>match b.v (Pg d 0) e f with
  | ((l,.no),c)=>if l.iU then match b.s (Pg d 1) e a c with
    | ((j,.no,i),g)=>if j.ret then ((j,.no,i),g) else Yp d e k i g
    | g=>g
   else ((RS,.no,a),c)
  | ((_,g),c)=>((RS,g,a),c)
def WR (a:Nd)(f:Pl)(i:Oc)(c:Er)(e:Option Va)(d:St):(Oc × Er × Option Va) × St:=match c with
 | .Yq j=>
  let g:=d.gg
  b.s (Pg a 0) { f with scope:=g } e ((d.gq f.scope (-1) (own a)).hi g a.2.tx 0 j)
 | c=>((i,c,e),d)
def VG (j:Nd)(k:Pl)(f:Oc)(a:Er)(e:Option Va)(g:St):(Oc × Er × Option Va) × St:=match a with
 | .stop=>((f,.stop,e),g)
 | a=>match b.s (Pg j 0) k e g with
  | ((d,.no,c),i)=>if d.ret then ((d,.no,c),i) else ((f,a,c),i)
  | c=>c
def Yr (i:Pl):List Nd->Oc->Er->Option Va->St->(Oc × Er × Option Va) × St
 | [],d,a,c,f=>((d,a,c),f)
 | g::j,d,a,c,f=>
  let e:=if g.2.kd=13 then WR b g i d a c f else VG b g i d a c f
  Yr i j e.1.1 e.1.2.1 e.1.2.2 e.2
def jp (fuel:Nat)(f:Nd)(d:Pl)(c:Option Va)(n:St):(Oc × Er × Option Va) × St:=
 let g:=n.step
 let e:=f.2
 if 20000<g.steps then ((RS,.stop,c),g)
 else if e.kd=2 then
  if e.fJ.length=0 then ((RS,.no,c),g) else
  let o:=g.M.find d.scope e.tx
  match b.v (Pg f 0) d g with
  | ((i,.no),a)=>let l:=YV o e.tx i d.fT a;((RS,l.1,c),l.2)
  | ((_,j),a)=>((RS,j,c),a)
 else if e.kd=3\/e.kd=4 then match U8 b (QB f) d g with
  | ((i,.no),a)=>((RS,m4 (a.M.start d.scope e.tx i).1,c),{ a with M:=(a.M.start d.scope e.tx i).2 })
  | ((_,j),a)=>((RS,j,c),a)
 else if e.kd=6 then let m:=Qu f d g;SG b m.1 (QB f) c m.2
 else if e.kd=7 then match b.v (Pg f 0) d g with
  | ((i,.no),a)=>if i.iU then b.s (Pg f 1) d c a else if 2<e.fJ.length then b.s (Pg f 2) d c a else ((RS,.no,c),a)
  | ((_,j),a)=>((RS,j,c),a)
 else if e.kd=8 then Yp b f d fuel c g
 else if e.kd=9 then match UJ b (Pg f 0) d g with
  | ((l,.no),a)=>b.s (Pg f 1) { d with scope:=a.gg } c (a.gq d.scope l (-2))
  | ((_,j),a)=>((RS,j,c),a)
 else if e.kd=10 then match U8 b (QB f) d g with
  | ((i,.no),a)=>((⟨true,i⟩,.no,c),a)
  | ((i,j),a)=>((⟨false,i⟩,j,c),a)
 else if e.kd=11 then match b.v (Pg f 0) d g with
  | ((i,.no),a)=>((RS,.Yq i,c),a)
  | ((_,j),a)=>((RS,j,c),a)
 else if e.kd=12 then
  let k:=b.s (Pg f 0) d c g
  Yr b d (QB f).tail k.1.1 k.1.2.1 k.1.2.2 k.2
 else if e.kd=15 then match b.v (Pg f 0) d g with
  | ((i,.no),a)=>((RS,.no,c.map λ_=>i),a)
  | ((_,j),a)=>((RS,j,c),a)
 else ((RS,.no,c),g)
end
def fx:Nat->Fx
 | 0=>⟨λ_ _ a=>((vU,.stop),a),λ_ _ b a=>((RS,.stop,b),a)⟩
 | a+1=>⟨YR (fx a),jp (fx a) a⟩
def Q5:St:=
 let a:=((⟨[],[]⟩:Mo).Qj 0).scope (-1) 0
 let b:=a.scope 0 (-1)
 let c:=((b.Qj 1).put 0 XL (UH 1) false).2
 let d:=((c.Qj 2).put 0 Vs (UH 2) false).2
 ⟨d,[],0,[],[-1,0],[],0⟩
def Rh (c:Tr):Er × St:=
 let a:=QI (some 0,c) Q5
 let b:=SG (fx 20002) a.1 (QB (some 0,c)) none a.2
 (b.1.2.1,b.2)
def th (a:Int)(b:Pe):Pq 106 #[O3 a] b λd c=>d=PK (vA (UH a))/\Pn b c:=by
 go_enter func106,ntmps106
 go_wp2
 refine hf (v:=vA (UH a)) (by simp[results,results106,go_sem,UH]) rfl ⟨rfl,?_⟩;exact QJ
def yo (a:Int)(b:Pe):Pq 253 #[O3 a] b λd c=>d=PK (vA (WT a))/\Pn b c:=by
 go_enter func253,ntmps253
 go_wp2
 refine hf (v:=vA (WT a)) (by simp[results,results253,go_sem,WT]) rfl ⟨rfl,?_⟩;exact QJ
def qG (a:Py)(b:Pe):Pq 254 #[Pj a] b λd c=>d=PK (vA (Vk a))/\Pn b c:=by
 go_enter func254,ntmps254
 go_wp2
 refine hf (v:=vA (Vk a)) (by simp[results,results254,go_sem,Vk]) rfl ⟨rfl,?_⟩;exact QJ
def WI (a:Bool)(b:Pe):Pq 255 #[Pv a] b λd c=>d=PK (vA (QE a))/\Pn b c:=by
 cases a
 ·go_enter func255,ntmps255
  go_wp2
  refine hf (v:=vA (QE false)) (by simp[results,results255,go_sem,QE]) rfl ⟨rfl,?_⟩;exact QJ
 ·go_enter func255,ntmps255
  go_wp2
  refine hf (v:=vA (QE true)) (by simp[results,results255,go_sem,QE]) rfl ⟨rfl,?_⟩;exact QJ
def X5 (c:Py)(a:Pe):Pq 269 #[Pj c] a λe d=>(∃ b,e=PK (.iface 122 (PL b 0))/\a.heap.size<=b/\d.heap[b]? = some (PZ #[O3 4,O3 0,Pj c] 126))/\Pn a d:=by
 have f:=qG c a;go_enter func269,ntmps269;go_wp2_with fail;refine cm f ?_;rintro e g ⟨rfl,b⟩;go_wp2;go_ret;refine⟨⟨g.heap.size,rfl,b.size,?_⟩,b.alloc b.size _⟩;exact Ph _ _
def Bc (a:Py):a.toList.isEmpty=decide (a=O8):=by
 by_cases h:a=O8
 ·subst h;have b:O8.toList=[]:=by decide +kernel
  rw[b];simp
 ·have b:=Vt (a:=O8) (b:=[]) rfl h;rw[gN h]
  cases c:a.toList with
  | nil=>rw[c] at b;cases b
  | cons _ _=>rfl
def X6 (e:Va)(l:Pe):Pq 132 #[vA e] l λn m=>n=PK (Pv e.iU)/\Pn l m:=by
 obtain⟨a,b,c⟩:=e
 by_cases f:a=0
 ·subst f;go_enter func132,ntmps132
  go_wp2
  go_ret;exact⟨rfl,QJ⟩
 by_cases g:a=1
 ·subst g;go_enter func132,ntmps132
  go_wp2
  go_ret;exact⟨rfl,QJ⟩
 by_cases i:a=2
 ·subst i;have d:Va.iU ⟨2,b,c⟩=(b != 0):=rfl;exact uJ
 by_cases j:a=3
 ·subst j;have d:Va.iU ⟨3,b,c⟩=(b != 0):=rfl;exact uJ
 by_cases k:a=4
 ·subst k;have d:Va.iU ⟨4,b,c⟩ = !c.toList.isEmpty:=by rw[Bc];rfl
  exact uJ
 have d:Va.iU ⟨a,b,c⟩=true:=by unfold Va.iU;simp[f,g,i,j,k]
 exact uJ
def X8 (c:Px)(d:Pe)(a:Px):Er->Prop
 | .no=>a=.nilIface
 | .stop=>a=c
 | .Yq x=>∃ b,a=.iface 122 (PL b 0)/\d.heap[b]? = some (PZ #[O3 x.k,O3 x.n,Pj x.s] 126)
 | .ir=>a=.iface 34 (O3 7)
def X8.fH {d:Px}{w w':Pe}{e:Px}{a:Er}(h:X8 d w e a)(f:Pn w w'):X8 d w' e a:=by
 cases a with
 | no=>exact h
 | stop=>exact h
 | ir=>exact h
 | Yq x=>
  obtain⟨c,g,b⟩:=h;exact⟨c,g,by rw[f.block c (fI b)];exact b⟩
def OD (o:Px)(a:Int)(d:¬ (a < -1000000000\/1000000000<a))(j:Pe):Pq 314 #[O3 a] j λe b=>(∃ c,e=PK (.tuple #[vA (Vl a).1,c])/\X8 o b c (Vl a).2)/\Pn j b:=by
 have i:Vl a=(WT a,.no):=by unfold Vl;rw[fK d]
 rw[i];have q:¬ a < -1000000000:=λh=>d (fM h);have p:¬ a > 1000000000:=λh=>d (fU h);have k:Hid (∀ c,Pq 253 #[O3 a] c λe b=>e=PK (vA (WT a))/\Pn c b):=λc=>yo a c;clear d i;go_enter func314,ntmps314;go_wp2_with fail;refine cm (O4 k _) ?_;rintro e v ⟨rfl,g⟩;obtain⟨n,l,m,f,u⟩:=Yy (g.mono P7);have r:=f 0;have s:=f 1;have t:=f 2;clear f;go_wp2_with fail
 refine hf (v:=.tuple #[vA (WT a),QW]) (by simp[results,results314,go_sem,n,l,m,WT]) rfl ⟨⟨_,rfl,rfl⟩,?_⟩;exact hj (QJ.trans (g.mono P7)) Qp _ _ _
def alz (w:Px)(a:Int)(e:a < -1000000000\/1000000000<a)(j:Pe):Pq 314 #[O3 a] j λf c=>(∃ b,f=PK (.tuple #[vA (Vl a).1,b])/\X8 w c b (Vl a).2)/\Pn j c:=by
 have m:Vl a=(vU,f0 Vd):=by unfold Vl;rw[fL e]
 rw[m];have q:Hid (∀ d,Pq 269 #[Pj Vd] d λf c=>(∃ b,f=PK (.iface 122 (PL b 0))/\d.heap.size<=b/\c.heap[b]? = some (PZ #[O3 4,O3 0,Pj Vd] 126))/\Pn d c):=λd=>X5 Vd d;clear m;go_enter func314,ntmps314
 by_cases z:a < -1000000000
 all_goals
  have p:a < -1000000000\/a > 1000000000:=e;have l:¬ a < -1000000000->a > 1000000000:=λh=>e.resolve_left h
  try have A:=l z
  clear e p l;go_wp2_with fail;refine cm (O4 q _) ?_;rintro f F ⟨⟨b,rfl,o,n⟩,k⟩;obtain⟨v,r,s,g,E⟩:=Yy (k.mono P7);have B:=g 0;have C:=g 1;have D:=g 2;have t:=Y n;have u:=Y o;clear g n o;go_wp2_with fail;refine hf (v:=.tuple #[vA vU,.iface 122 (PL b 0)]) (by simp[results,results314,go_sem,v,r,s,vU]) rfl ⟨⟨_,rfl,b,rfl,?_⟩,?_⟩
  ·have i:b≠j.heap.size:=by have:=O4 u;simp at this;omega
   rw[gV _ _ _ _ i,gV _ _ _ _ i,gV _ _ _ _ i];exact O4 t
  ·exact hj (QJ.trans (k.mono P7)) Qp _ _ _
abbrev mR (a:St)(d b f c:Px)(e:Nat):List Px:=[d,O3 0,Qn,O3 (a.steps:Int),b,.map (some e),f,c,O3 (a.fO:Int),O3 0,O3 0,O3 1]
section
variable {H:Nat} {R:List Px} {a:Pe} {b:Mo}
include H R a b
def HP.cell {i g:Px}{k j:List Px}(h:HP H R a b i g k j)(c:Nat)(d:Px) :
  HP H (R.set c d) (a.setCell (O7 H (c+2)) d) b i g k j/\Ql [84] H a (a.setCell (O7 H (c+2)) d):=by
 have e:=h.gw;have f:Ql [84] H a (a.setCell (O7 H (c+2)) d):=Ql.setCell (Ql.of RP (P6 (gz e))) e P7 Qp _;refine⟨⟨?_,h.ob.fR f Pm Pm,h.ro.fR f Pm Pm⟩,f⟩;rw[hk a H (c+2) _ 84 _ e]
 congr 2
 apply Array.ext';simp
def Qx.cell (h:Qx H R a b)(c:Nat)(d:Px):Qx H (R.set c d) (a.setCell (O7 H (c+2)) d) b/\Ql [84] H a (a.setCell (O7 H (c+2)) d):=by
 obtain⟨f,e,i,g,h⟩:=h;exact⟨⟨f,e,i,g,(h.cell c d).1⟩,(h.cell c d).2⟩
def Qx.at_ (h:Qx H R a b)(c:Nat)(e:Px)(f:R[c]? = some e):a.cell? (O7 H (c+2))=some e/\a.frozen? (O7 H (c+2))=false:=by
 obtain⟨i,g,k,j,h⟩:=h;have d:=h.gw;refine⟨?_,by simp[World.frozen?,d]⟩;simp[World.cell?,d,f]
end
def asw {b g:Nat}{a:St}{f d i e l:Px}{c:Pe}(h:Qx b (mR a f d i e g) c a.M)(w:a.steps<=20000)(q:c.cell? (O7 1 0)=some l)(v:1<b) :
  Pq 107 #[PL b 0] c λs m=>s=PK (if 20000<a.steps+1 then l else QW)/\Qx b (mR a.step f d i e g) m a.M/\Ql [84] b c m:=by
 obtain⟨n,o⟩:=h.at_ 3 _ rfl;have A:c.cell? (O7 b 5)=some (O3 (a.steps:Int)):=n;have u:c.frozen? (O7 b 5)=false:=o;clear n o;have C:=h.lt;have k:=Y (h.cell 3 (O3 ((a.steps:Int)+1)));have p:(mR a f d i e g).set 3 (O3 ((a.steps:Int)+1))=mR a.step f d i e g:=rfl;rw[p] at k;have z:(c.setCell (O7 b 5) (O3 ((a.steps:Int)+1))).cell? (O7 1 0)=some l:=by
  rw[gs (w:=c) (a:=(O7 1 0)) (gV _ _ _ _ (show (1:Nat)≠b by omega))];exact q
 have B:1<c.heap.size:=O9;clear h q p
 by_cases j:20000<a.steps+1
 ·rw[fL j];have r:(a.steps:Int)+1 > 20000:=O9;clear j
  generalize a.steps=t at *
  go_enter func107,ntmps107;go_wp2;go_ret;exact⟨rfl,k.out⟩
 ·rw[fK j];have r:¬ (a.steps:Int)+1 > 20000:=O9;clear j
  generalize a.steps=t at *
  go_enter func107,ntmps107;go_wp2;go_ret;exact⟨rfl,k.out⟩
def jU {k e:Pe}{f c j:Nat}{d:Px}{i:Nat}{l:List Px}(h:k.ownsRow f c j d i l)(m:∀ a b,d.ownBlock=some a->k.heap[a]? = some (PZ b c)->e.heap[a]? = some (PZ b c)):e.ownsRow f c j d i l:=by
 refine⟨h.1,?_⟩
 rcases h.2 with o|⟨a,p,b,g,n,q,rest⟩
 ·exact fM o
 ·exact fU ⟨a,p,b,g,n,m a b (by rw[g];rfl) q,rest⟩
def Kp (e d:Pe):Prop:=∀ (b:Nat) (c:Array Px) (a:TypeId),e.heap[b]? = some (PZ c a)->(a=40\/a=22)->d.heap[b]? = some (PZ c a)
mutual
def Qa.kp {c:Nat->Prop}{i b:Pe}(h:Kp i b):∀ (g:Tr) (a:Nat),Qa c i g a->Qa c b g a
 | .mk r t s n,a,e=>by
  rw[Qa] at e ⊢;obtain⟨l,o,f,k,d,j⟩:=e;exact⟨l,o,f,h _ _ _ k (fM rfl),⟨jU d.1 λq p _ m=>h _ _ _ m (fU rfl),d.2⟩,PE.kp h n f j⟩
def PE.kp {e:Nat->Prop}{i d:Pe}(h:Kp i d):∀ (c:List Tr) (b:List Nat),PE e i c b->PE e d c b
 | [],b,a=>by rw[PE] at a ⊢;exact a
 | m::c,b,a=>by
  rw[PE] at a ⊢;obtain⟨g,f,k,rfl,l,j⟩:=a;exact⟨g,f,k,rfl,Qa.kp h m g l,PE.kp h c f j⟩
end
mutual
def Tf.kp {b:Nat->Prop}{f a:Pe}(h:Kp f a):∀ d:Ad,Tf b f d->Tf b a d
 | .mk s q t r m,e=>by
  rw[Tf] at e ⊢;obtain⟨k,j,⟨n,i,c⟩,g⟩:=e;exact⟨Qa.kp h _ _ k,j,⟨n,h _ _ _ i (fM rfl),jU c.1 λp o _ l=>h _ _ _ l (fU rfl),c.2⟩,RX.kp h m g⟩
def RX.kp {d:Nat->Prop}{e c:Pe}(h:Kp e c):∀ a:List Ad,RX d e a->RX d c a
 | [],_=>by rw[RX];trivial
 | f::a,b=>by
  rw[RX] at b ⊢;exact⟨Tf.kp h f b.1,RX.kp h a b.2⟩
end
def Tm:List TypeId:=Th++[9,54,3,211]
structure P8 (L:Option Nat)(B:Nat)(w w':Pe):Prop where
 below:Below B w w'
 rest:∀ (b:Nat) c (e:TypeId),w.heap[b]? = some (PZ c e)->e ∉ Tm->some b≠L->w'.heap[b]? = some (PZ c e)
section
variable {L:Option Nat} {B:Nat} {w a f:Pe}
def P8.of (b:Pn w a)(c:B<=w.heap.size):P8 L B w a:=⟨b.mono c,λd _ _ h _ _=>(b.block d (gz h)).trans h⟩
def P8.trans (h:P8 L B w a)(c:P8 L B a f):P8 L B w f:=⟨h.below.trans c.below,λx y b g d e=>c.rest x y b (h.rest x y b g d e) d e⟩
def P8.up (h:P8 none B w a):P8 L B w a:=⟨h.below,λx y c b d _=>h.rest x y c b d P7⟩
def P8.jR (h:Ql Th B w a):P8 L B w a:=⟨h.below,λx y c b d _=>h.rest x y c b (λh=>d (k3 _ h))⟩
def P8.down {c:Nat}(h:P8 (some c) B w a)(g:w.heap.size<=c):P8 none B w a:=⟨h.below,λx y b d e _=>h.rest x y b d e (λb=>by cases b;exact absurd (gz d) O9)⟩
def P8.kp (h:P8 L B w a)(i:∀ b,L=some b->∃ c,w.heap[b]? = some (PZ c 65)):Kp w a:=λb c j d e=>h.rest b c j d (by rcases e with rfl|rfl <;> decide) (λk=>by
 obtain⟨l,g⟩:=i b k.symm;exact RG d g (by rcases e with rfl|rfl <;> decide) rfl)
def Kp.of (b:Pn w a):Kp w a:=λc _ _ h _=>(b.block c (gz h)).trans h
def Ql.kp (h:Ql Th B w a):Kp w a:=λd e g b c=>h.rest d e g b (by rcases c with rfl|rfl <;> decide)
end
structure PX (ab:List Nat)(w:Pe)(a:Ad)(d:Nd):Prop where
 at_:Tf (λ_=>True) w a
 tr:a.tr=d.2
 no:match d.1 with
  | some k=>∃ ja post,ab=ja++a.VE++post/\ja.length=k
  | none=>∀ q ∈ a.VE,q ∉ ab
def PX.kp {c:List Nat}{e a:Pe}{b:Ad}{d:Nd}(h:PX c e b d)(f:Kp e a):PX c a b d:=⟨Tf.kp f _ h.at_,h.tr,h.no⟩
def D6 {n:List Nat}{q:Pe}:∀ (a:List Ad) (no:Option Nat) (i:Nat) (c:Ad),RX (λ_=>True) q a->a[i]? = some c ->
  (match no with
   | some p=>∃ b j,n=b++Ad.Ui a++j/\b.length=p
   | none=>∀ k ∈ Ad.Ui a,k ∉ n)->∃ m,(Vj no (Ad.lU a))[i]? = some m/\PX n q c m
 | [],_,i,c,_,h,_=>by simp at h
 | l::a,no,0,c,e,h,f=>by
  simp at h;subst h;rw[RX] at e;refine⟨(no,l.tr),by rw[Ad.lU,Vj];rfl,e.1,rfl,?_⟩
  cases no with
  | none=>exact λk o=>f k (by rw[Ad.Ui];exact k3 _ o)
  | some p=>
   obtain⟨b,j,g,d⟩:=f;exact⟨b,Ad.Ui a++j,by rw[g,Ad.Ui];simp,d⟩
 | l::a,no,i+1,c,e,h,f=>by
  rw[RX] at e;obtain⟨m,g,d⟩:=D6 a (no.map (· + l.tr.count)) i c e.2 (by simpa using h) (by
   cases no with
   | none=>exact λk o=>f k (by rw[Ad.Ui];exact List.mem_append_right _ o)
   | some p=>
    obtain⟨b,j,g,d⟩:=f;exact⟨b++l.VE,j,by rw[g,Ad.Ui];simp,by rw[gj,d,Ad.BD,Ad.ye]⟩)
  exact⟨m,by rw[Ad.lU,Vj];simpa using g,d⟩
def PX.gK {f:List Nat}{l:Pe}{a:Ad}{b:Nd}(h:PX f l a b){c:Nat}{d:Ad}(m:a.ks[c]? = some d):∃ i,(QB b)[c]? = some i/\PX f l d i:=by
 obtain⟨j,e,g⟩:=h;obtain⟨no,v⟩:=b
 cases a with
 | mk t r w s k=>
  rw[Tf] at j;have p:v=.mk r w s (Ad.lU k):=by rw[Ad.tr] at e;exact e.symm
  subst p;refine D6 k (no.map (· + 1)) c d j.2.2.2 m ?_
  cases no with
  | none=>exact λo n=>g o (by rw[Ad.VE];exact gE _ n)
  | some z=>
   obtain⟨q,u,n,o⟩:=g;exact⟨q++[t],u,by rw[n,Ad.VE];simp,by simp[o]⟩
def D0:∀ (no:Option Nat) (a:List Tr),(Vj no a).length=a.length
 | _,[]=>rfl
 | no,b::a=>by rw[Vj,gL,D0,gL]
def RU (a:Nd):(QB a).length=a.2.fJ.length:=D0 _ _
def PX.ks {c:List Nat}{d:Pe}{a:Ad}{b:Nd}(h:PX c d a b):a.ks.length=b.2.fJ.length:=by
 rw[<-h.tr,a.s0.2.2,gu]
def zD:∀ (no:Option Nat) (a:List Tr),(Vj no a).map (·.2)=a
 | _,[]=>rfl
 | no,b::a=>by rw[Vj,gW,zD]
section
variable {f:List Nat} {c:Pe} {a:Ad} {b:Nd} (h:PX f c a b)
include f c a b h
def PX.KY {d:Nat}(k:d<b.2.fJ.length):∃ e,a.ks[d]? = some e/\(QB b)[d]? = some (Pg b d)/\PX f c e (Pg b d):=by
 obtain⟨e,g⟩:∃ e,a.ks[d]? = some e:=⟨_,ga (by rw[h.ks];exact k)⟩
 obtain⟨m,i,j⟩:=h.gK g;have l:Pg b d=m:=by unfold Pg;rw[g8,i];rfl
 rw[l];exact⟨e,g,i,j⟩
def PX.cells:a.p<c.heap.size/\c.cell? (O7 a.p 0)=some (O3 b.2.kd)/\c.cell? (O7 a.p 1)=some (Pj b.2.tx)/\c.cell? (O7 a.p 2)=some (O3 b.2.n) /\
  ∃ d,c.cell? (O7 a.p 3)=some d/\q2 (λ_=>True) c d (a.ks.map Ad.p):=by
 obtain⟨g,i,_⟩:=h;rw[<-i]
 cases a with
 | mk s p t r q=>
  rw[Tf] at g;obtain⟨_,o,⟨d,e,j⟩,_⟩:=g;obtain⟨k,l,m,n,_⟩:=fZ e;rw[Ad.tr];exact⟨fI e,k,l,m,d,n,j⟩
end
def apf {f:Pe}{i:Px}{c:List Nat}(h:q2 (λ_=>True) f i c){b e:Nat}(g:c[b]? = some e):∃ a d,i=.slice (some (O7 a 0)) c.length d/\a<f.heap.size/\f.cell? (O7 a b)=some (O5 e):=by
 have j:b<c.length:=(gr.1 g).1;obtain⟨a,d,rfl,_,_⟩:=h.1.form O9;refine⟨a,d,rfl,(h.1.lt a rfl).2,?_⟩;rw[h.1.cellAt b O9];simp[g]
def PX.Zf {i:List Nat}{e:Pe}{g:Ad}{b:Nd}(h:PX i e g b){a:Nat}(o:a<b.2.fJ.length) :
  ∃ c d f,e.cell? (O7 g.p 3)=some (.slice (some (O7 d 0)) b.2.fJ.length f)/\e.cell? (O7 d a)=some (O5 c.p)/\PX i e c (Pg b a)/\(QB b)[a]? = some (Pg b a):=by
 obtain⟨c,k,p,l⟩:=h.KY o;obtain⟨_,_,_,_,q,j,m⟩:=h.cells;obtain⟨d,f,rfl,_,n⟩:=apf m (b:=a) (e:=c.p) (by simp[k]);rw[gu,h.ks] at j;exact⟨c,d,f,j,n,l,p⟩
abbrev l5 (a:Int × Int):List Px:=[O3 a.1,O3 a.2]
abbrev pj (a:Ad × Fu):List Px:=[O5 a.1.p,O3 a.2.scope,Pv a.2.fT]
structure Bs (w0:Pe)(mb af:Nat)(ab:List Nat)(es:Px):Prop where
 sz:w0.heap.size=mb
 nm:w0.heap[af]? = some (.map (X9 (Xw ab)) ab.length)
 an:∀ q ∈ ab,Cl w0 q
 nd:ab.Nodup
 es:w0.cell? (O7 1 0)=some es
structure Mx (w0:Pe)(mb af:Nat)(ab:List Nat)(aT aB az aM:Px)(w:Pe)(σ:St):Prop where
 bw:Below mb w0 w
 hh:Qx mb (mR σ aT aB az aM af) w σ.M
 lg:w.ownsRow mb 9 1 aT σ.hq.length (σ.hq.map Value.string)
 se:w.ownsRow mb 54 2 aB σ.seen.length (σ.seen.flatMap l5)
 ow:w.ownsRow mb 3 1 az σ.Rx.length (σ.Rx.map (Value.int .i64))
 fu:∃ eh:List Ad,eh.length=σ.Ri.length/\w.ownsRow mb 211 3 aM σ.Ri.length ((eh.zip σ.Ri).flatMap pj)/\∀ (i:Nat) a f,eh[i]? = some a->σ.Ri[i]? = some f->PX ab w a f.d
section
variable {q:Pe} {d m:Nat} {p:List Nat} {H l j i g:Px} {w w':Pe} {n:St}
section
variable (h:Mx q d m p l j i g w n)
include h
def Mx.lt:d<w.heap.size:=h.hh.lt
def Mx.fH (a:Pn w w'):Mx q d m p l j i g w' n:=Fr
end
structure SL (B:Nat)(o f g0 e9:Px)(w w':Pe):Prop where
 below:Below B w w'
 rest:∀ (b:Nat) c (e:TypeId),w.heap[b]? = some (PZ c e)->e ∉ Th->o.ownBlock≠some b->f.ownBlock≠some b->w'.heap[b]? = some (PZ c e)
 oo:∀ k,g0.ownBlock=some k->o.ownBlock=some k\/w.heap.size<=k
 ff:∀ k,e9.ownBlock=some k->f.ownBlock=some k\/w.heap.size<=k
def SL.trans {f:Nat}{D B u z C A:Px}{w E F:Pe}(h:SL f D B u z w E)(e:SL f u z C A E F):SL f D B C A w F:=by
 refine⟨h.below.trans e.below,λc v a k t s r=>?_,λb o=>?_,λb o=>?_⟩
 ·refine e.rest c v a (h.rest c v a k t s r) t (λa=>?_) (λa=>?_)
  ·rcases h.oo c a with a|a
   ·exact s a
   ·exact absurd (gz k) O9
  ·rcases h.ff c a with a|a
   ·exact r a
   ·exact absurd (gz k) O9
 ·rcases e.oo b o with a|a
  ·exact h.oo b a
  ·exact .inr (f9 h.below.size a)
 ·rcases e.ff b o with a|a
  ·exact h.ff b a
  ·exact .inr (f9 h.below.size a)
def SL.of {B:Nat}{o f:Px}{w w':Pe}(a:Pn w w')(b:B<=w.heap.size):SL B o f o f w w':=⟨a.mono b,λc _ _ h _ _ _=>(a.block c (gz h)).trans h,λ_ h=>.inl h,λ_ h=>.inl h⟩
def SL.jR {a:Nat}{c b:Px}{w w':Pe}(h:Ql Th a w w'):SL a c b c b w w':=⟨h.below,λk o r e f _ _=>h.rest k o r e f,λ_ h=>.inl h,λ_ h=>.inl h⟩
def SL.jn {z v:Px}{o:Option Nat}(h:SL d i g z v w w')(f:Mx q d m p l j i g w n):P8 o d w w':=by
 obtain⟨A,_,k,_⟩:=f.fu;refine⟨h.below,λr s u b e _=>h.rest r s u b (λa=>e (k3 _ a)) (λa=>?_) (λa=>?_)⟩
 ·obtain⟨t,c⟩:=QM f.ow a;exact RG b c (by rintro rfl;exact e Pm) rfl
 ·obtain⟨t,c⟩:=QM k a;exact RG b c (by rintro rfl;exact e Pm) rfl
def SL.kp {e c:Px}(h:SL d i g e c w w')(a:Mx q d m p l j i g w n):Kp w w':=(h.jn (o:=none) a).kp (λf b=>by cases b)
def Mx.heap (h:Mx q d m p l j i g w n){b:Mo}(c:Qx d (mR n l j i g m) w' b)(a:Ql Th d w w'):Mx q d m p l j i g w' { n with M:=b }:=BR
end
def ajx (g j:Nat)(d:List (Nat × Px))(b:Nat)(a:Pe)(p:a.heap[g]? = some (.map (X9 d) j))(r:Cl a b)(t:∀ c ∈ d,Cl a c.1) :
  (Instr.lookup 80 (.map (some g)) (O5 b) true).run prog a=.ok (.tuple #[((d.find? (λc=>decide (b=c.1))).map (·.2)).getD (O3 0),Pv (d.find? (λc=>decide (b=c.1))).isSome]) a:=by
 obtain⟨u,q,e⟩:=DF r d t;have o:=k7;have k:=underlying80;have l:(zeroValue 3).run prog a=.ok (O3 0) a:=by kernel_rfl
 unfold Instr.lookup;rw[gR,ho k a];have i{G}(h:G:=by
 have s:(getObj g).run prog a=.ok (.map (X9 d) j) a:=by simp[getObj,Sem.run,p]
 simp only[hM,gR,s,Sem.run_pure,n,q]
 cases u with
 | none=>
  cases f:d.find? (λc=>decide (b=c.1)) with
  | none=>simp[l]
  | some x=>rw[f] at e;simp at e
 | some y=>
  cases f:d.find? (λc=>decide (b=c.1)) with
  | none=>rw[f] at e;simp at e
  | some x=>rw[f] at e;simp at e;simp[e]):=O6 h;exact AM
def Da (d:Nat):∀ (b e:List Nat) (c:Nat),d ∉ b->(((b++d::e).zipIdx c).map λa=>(a.1,Value.int .i64 (a.2:Int))).find? (λa=>decide (d=a.1))=some (d,O3 ((c+b.length:Nat):Int))
 | [],e,c,_=>by simp
 | x::b,e,c,h=>by
  have f:d≠x:=λa=>h (by simp[a]);rw[hS,k9,gW,kk];simp only[gN f];rw[Da d b e (c+1) (λa=>h (gE _ a)),gL,show c+1+b.length=c+(b.length+1) by omega]
def uW (a:Nd):Int:=match a.1 with
 | some b=>b
 | none=>0
def PX.find {c:List Nat}{n:Pe}{a:Ad}{d:Nd}(h:PX c n a d)(g:c.Nodup) :
  (((Xw c).find? (λb=>decide (a.p=b.1))).map (·.2)).getD (O3 0)=O3 (uW d)/\((Xw c).find? (λb=>decide (a.p=b.1))).isSome=d.1.isSome:=by
 obtain⟨_,_,f⟩:=h;obtain⟨no,o⟩:=d
 cases no with
 | none=>
  rw[L3 (f a.p (by rw[rY];simp))]
  exact⟨rfl,rfl⟩
 | some l=>
  obtain⟨e,m,rfl,i⟩:=f;have k:a.p ∉ e:=by
   rw[rY,iq,mW] at g;exact λj=>g.2.2 _ j _ P7 rfl
  have b:(Xw (e++a.VE++m)).find? (λb=>decide (a.p=b.1))=some (a.p,O3 (l:Int)):=by
   unfold Xw;rw[rY,iq,hS,Da a.p e _ 0 k,ib,i]
  rw[b];exact⟨rfl,rfl⟩
section
variable {M:Pe} {k l:Nat} {q:List Nat} {cU I F A r:Px} {w w':Pe} {g:St}
def Qx.fR {H j:Nat}{R:List Px}{c:Mo}{a:List TypeId}(h:Qx H R w c)(b:Ql a j w w')(n:84 ∉ a)(d:185 ∉ a)(f:207 ∉ a)(e:198 ∉ a)(i:262 ∉ a):Qx H R w' c:=by
 obtain⟨o,s,p,m,h⟩:=h;exact⟨o,s,p,m,b.rest _ _ _ h.gw n,h.ob.fR b d f,h.ro.fR b e i⟩
def yu (a:Bs M k l q cU)(e:Below k M w){b:Ad}{c:Nd}(d:PX q w b c) :
  (Instr.lookup 80 (.map (some l)) (O5 b.p) true).run prog w=.ok (.tuple #[O3 (uW c),Pv c.1.isSome]) w:=by
 have j:w.heap[l]? = some (.map (X9 (Xw q)) q.length):=(e.block l (by rw[<-a.sz];exact fI a.nm)).trans a.nm
 have i:=ajx l _ (Xw q) b.p w j d.at_.cl (λp m=>by
  obtain⟨n,o,f⟩:=a.an _ (yr m);exact⟨n,o,(e.block _ (by rw[<-a.sz];exact fI f)).trans f⟩)
 rw[(d.find a.nd).1,(d.find a.nd).2] at i;exact i
def ZA (n:Bs M k l q cU)(e:Mx M k l q I F A r w g){d:Ad}{f:Nd}(p:PX q w d f) :
  Pq 51 #[O5 k,O5 d.p] w λo w'=>o=PK (O3 (own f))/\w'=w:=by
 have b:=yu n e.bw p;obtain⟨v,s⟩:=e.hh.at_ 5 _ rfl;have u:=e.lt;obtain⟨i,j⟩:=xE d.p;rw[<-j] at b ⊢;obtain⟨no,m⟩:=f;clear j
 cases no with
 | none=>
  have c:own (none,m) = -3:=rfl;exact Jw
 | some a=>
  have c:own (some a,m)=(a:Int):=rfl;exact Eu
def Mx.uq (h:Mx M k l q I F A r w g)(x:Int){b:Pe}{a:Px}(p:w.grownBy b A.ownBlock)(t:b.ownsRow k 3 1 a (g.Rx.length+1) (g.Rx.map (Value.int .i64)++[O3 x]))
  (u:∀ c,a.ownBlock=some c->A.ownBlock=some c\/w.heap.size<=c) :
  Mx M k l q I F a r (b.setCell (O7 k 8) a) { g with Rx:=g.Rx++[x] }/\SL k A r a r w (b.setCell (O7 k 8) a):=Lk
def alO (w:Pe)(d:Int)(H:Nat)(h:w.heap.size=H):∀ a c,[Value.int .i64 d][a]? = some c->(w.alloc (.cells #[O3 d] 3)).cell? (((O7 H 0):Addr).add a)=some c:=by
 intro a c b;subst h
 cases a with
 | zero=>
  simp at b;subst b;simp[Addr.add]
 | succ a=>simp at b
def Pb (c:Int):∀ a ∈ [Value.int .i64 c],a.oneCell'=true:=by
 intro a b;rw[gc.1 b];rfl
def r8:(prog.info? 3).map (λa=>(a.zero,a.size,a.bytes))=some (some (O3 0),1,8):=by kernel_rfl
def mq (b:Mx M k l q I F A r w g)(d c x:Int)(s:g.Rx.length<=1000000000)
  (i:∀ f R,Qx k R f g.M->Pq 105 #[O5 k,O3 d,O3 c] f λa w'=>a=PK (O3 (g.M.Pz.length:Int))/\Qx k R w' (g.M.scope d c)/\Ql Th k f w') :
  Pq 50 #[O5 k,O3 d,O3 c,O3 x] w λa w'=>a=PK (O3 g.gg)/\∃ e,Mx M k l q I F e r w' (g.gq d c x)/\SL k A r e r w w':=by
 have t{G}(h:G:=by
 show Pq 50 #[O5 k,O3 d,O3 c,O3 x] w λa w'=>a=PK (O3 (g.M.Pz.length:Int))/\∃ e,Mx M k l q I F e r w' (g.gq d c x)/\SL k (.slice n m p) r e r w w'
 exact CQ):=O6 h;exact Js
abbrev Qy (a:Pl)(b:Option Addr):Px:=.agg #[O3 a.scope,O3 a.gh,Pv a.fT,.pointer b]
abbrev pM (a:Pl)(b:Option Addr):Obj:=PZ #[O3 a.scope,O3 a.gh,Pv a.fT,.pointer b] 73
def fX {w:Pe}{a:Nat}{x y b:Px}{d:TypeId}(h:w.heap[a]? = some (PZ #[x,y,b] d)):w.cell? (O7 a 0)=some x/\w.cell? (O7 a 1)=some y/\w.cell? (O7 a 2)=some b/\(∀ c,w.frozen? (O7 a c)=false)/\a<w.heap.size:=by
 refine⟨?_,?_,?_,λc=>?_,fI h⟩
 ·rw[cell_of h];rfl
 ·rw[cell_of h];rfl
 ·rw[cell_of h];rfl
 ·simp[World.frozen?,h]
def fN {w:Pe}{a:Nat}{x y b d:Px}{e:TypeId}(h:w.heap[a]? = some (PZ #[x,y,b,d] e)):w.cell? (O7 a 0)=some x/\w.cell? (O7 a 1)=some y/\w.cell? (O7 a 2)=some b/\w.cell? (O7 a 3)=some d/\(∀ c,w.frozen? (O7 a c)=false)/\a<w.heap.size:=by
 refine⟨?_,?_,?_,?_,λc=>?_,fI h⟩
 ·rw[cell_of h];rfl
 ·rw[cell_of h];rfl
 ·rw[cell_of h];rfl
 ·rw[cell_of h];rfl
 ·simp[World.frozen?,h]
def fQ {w b:Pe}{a:Nat}{c:Obj}(d:Pn w b)(h:w.heap[a]? = some c):b.heap[a]? = some c:=(d.block a (fI h)).trans h
def fY {w:Pe}{a:Nat}{c b:Obj}(h:w.heap[a]? = some c):(w.alloc b).heap[a]? = some c:=by rw[gd w b a (fI h)];exact h
def lq {w:Pe}{a:Nat}{x y e:Px}{o:TypeId}(h:w.heap[a]? = some (PZ #[x,y,e] o))(b c d:Px) :
  (((w.setCell (O7 a 0) b).setCell (O7 a 1) c).setCell (O7 a 2) d).heap[a]? = some (PZ #[b,c,d] o):=by
 have i{G}(h:G:=by
 exact f):=O6 h;exact uY
def Mx.ie {d:List TypeId}(h:Mx M k l q I F A r w g)(c:Ql d k w w')(f:∀ a ∈ d,a ∉ Tm/\a≠40/\a≠22):Mx M k l q I F A r w' g:=by
 have b:∀ a,a ∈ Tm->a ∉ d:=λa e h=>(f a h).1 e;obtain⟨v,B,m,o⟩:=h.fu;exact⟨h.bw.trans c.below,h.hh.fR c (b _ Pm) (b _ Pm) (b _ Pm) (b _ Pm) (b _ Pm),PV h.lg c (b _ Pm),PV h.se c (b _ Pm),PV h.ow c (b _ Pm),v,B,PV m c (b _ Pm),λC n u p z=>(o C n u p z).kp (λs t a j e=>c.rest s t a j (λi=>by rcases e with rfl|rfl;exact(f _ i).2.1 rfl;exact(f _ i).2.2 rfl))⟩
def Tn {a:Nat}{x y j:Px}{c:TypeId}(h:w.heap[a]? = some (PZ #[x,y,j] c))(b:k<=a)(d f m:Px):Ql [c] k w (((w.setCell (O7 a 0) d).setCell (O7 a 1) f).setCell (O7 a 2) m):=by
 have e:=hk w a 0 _ c d h;have i:=hk _ a 1 _ c f e;exact Ql.setCell (Ql.setCell (Ql.setCell (Ql.of RP (f9 b (P6 (fI h)))) h P7 b _) e P7 b _) i P7 b _
def SL.new {i e f d:Px}{b:Pe}{m:List TypeId}(h:SL k i e f d w w')(u:Ql m k w' b)(j:∀ a,a<w.heap.size->b.heap[a]? = w'.heap[a]?):SL k i e f d w b:=
 ⟨h.below.trans u.below,λa s t c p o n=>by rw[j a (fI c)];exact h.rest a s t c p o n,h.oo,h.ff⟩
def UU {a:Nat}(i:w.heap.size<=a)(d e f:Px)(b:Nat)(j:b<w.heap.size):(((w'.setCell (O7 a 0) d).setCell (O7 a 1) e).setCell (O7 a 2) f).heap[b]? = w'.heap[b]?:=by
 have c:b≠a:=O9;rw[gV _ _ _ _ c,gV _ _ _ _ c,gV _ _ _ _ c]
def Mx.aHG (h:Mx M k l q I F A r w g){d:Ad}{a:Fu}(W:PX q w d a.d){e:Pe}{b:Px}(O:w.grownBy e r.ownBlock)
  {f:List Ad} (N:f.length=g.Ri.length) (E:w.ownsRow k 211 3 r g.Ri.length ((f.zip g.Ri).flatMap pj)) (U:∀ (c:Nat) d a,f[c]? = some d->g.Ri[c]? = some a->PX q w d a.d)
  (S:e.ownsRow k 211 3 b (g.Ri.length+1) ((f.zip g.Ri).flatMap pj++pj (d,a)))
  (T:∀ s,b.ownBlock=some s->r.ownBlock=some s\/w.heap.size<=s) :
  Mx M k l q I F A b (e.setCell (O7 k 9) b) { g with Ri:=g.Ri++[a] }/\SL k A r A b w (e.setCell (O7 k 9) b):=by
 have L:Ql [211] k w e:=Ql.grown O (P6 h.lt) λX D=>by
  obtain⟨j,m⟩:=QM E D;exact⟨(E.lt X D).1,j,211,m,by simp⟩
 have ac:=h.hh.fR L Pm Pm Pm Pm Pm;obtain⟨ah,B⟩:=ac.cell 7 b;have o:Ql [211,84] k w (e.setCell (O7 k 9) b):=(L.mono Pm Qp).trans (B.mono Pm Qp);have H:Kp w (e.setCell (O7 k 9) b):=λp j n t v=>o.rest p j n t (by rcases v with rfl|rfl <;> decide);refine⟨⟨h.bw.trans o.below,ah,PV h.lg o Pm,PV h.se o Pm,PV h.ow o Pm,f++[d],by simp[N],?_,λc ad C i u=>?_⟩,⟨o.below,λp j n t v _ u=>?_,λ_ h=>.inl h,T⟩⟩
 ·have m:=PV S B Pm
  show World.ownsRow _ _ _ _ _ (g.Ri++[a]).length (((f++[d]).zip (g.Ri++[a])).flatMap pj)
  rw[gj,List.zip_append N,jl];simpa using m
 ·rcases hT c f.length with z|z
  ·rw[ht z] at i;have m:(g.Ri++[a])[c]? = some C:=u;rw[ht O9] at m;exact(U c ad C i m).kp H
  ·rw[hm z] at i;have P:=(gr.1 i).1;simp at P;have R:c - f.length=0:=O9;have m:(g.Ri++[a])[c]? = some C:=u;rw[hm O9,show c - g.Ri.length=0 by omega] at m;rw[R] at i;simp at i m;subst i m;exact W.kp H
 ·have m:e.heap[p]? = some (PZ j n):=(O.block p (gz t) (λn=>u n.symm)).trans t;exact B.rest p j n m (λs=>v (by rw[gc.1 s];decide))
def MF:(prog.info? 211).map (λa=>(a.zero,a.size,a.bytes))=some (some (.agg #[Ry,O3 0,Pv false]),3,24):=by kernel_rfl
def W6 (w:Pe)(H:Nat)(f:w.heap.size=H)(c:Nat)(d:Int)(b:Bool)(a:Nat)(e:Px)(h:([O5 c,O3 d,Pv b]:List Px)[a]? = some e) :
  (w.alloc (.cells #[O5 c,O3 d,Pv b] 211)).cell? (((O7 H 0):Addr).add a)=some e:=by
 subst f
 rcases a with _|_|_|a <;> simp at h
 all_goals subst h;simp[Addr.add]
def Mt (d:Nat)(e:Int)(c:Bool):∀ b ∈ ([O5 d,O3 e,Pv c]:List Px),b.oneCell'=true:=by
 intro b a;simp at a
 rcases a with rfl|rfl|rfl <;> rfl
section
variable (bB:Mx M k l q I F A r w g) {u:Ad} {ah:Nd} (aJ:PX q w u ah) (ai:ah.2.fJ.length=2) (ba:g.Ri.length<=1000000000) {K:Nat} (ay:g.M.Small K) (c:K<=1000000000) (d E:Int) (D:Option Addr) (p:Bool) (bD:p=PO (Pg ah 1).2)
include bB u ah aJ ai ba K ay c d E D p bD
def alU :
  Pq 60 #[O5 k,O5 u.p,.agg #[O3 d,O3 E,Pv true,.pointer D]] w λm w'=>m=PK (vA (UH g.M.objs.length))/\∃ bE,Mx M k l q I F A bE w' { g with Ri:=g.Ri++[⟨ah,d,true⟩],M:=g.M.Qj (3+g.Ri.length) }/\SL k A r A bE w w':=by
 have b{G}(h:G:=by
 obtain⟨o,z⟩:=xE ((w.alloc (.cells #[O3 d,O3 E,Pv true,.pointer D] 73)).alloc (.cells #[O3 0,O3 0,Qn] 65));have b{G}(h:G:=by
 have aj:o.heap[W]? = some (PZ #[O3 d,O3 E,Pv true,.pointer D] 73):=by
  rw[z,bu];exact fY (Ph _ _)
 have am:o.heap[H]? = some (PZ #[O3 0,O3 0,Qn] 65):=by
  rw[z,bh,show w.heap.size+1=(w.alloc (.cells #[O3 d,O3 E,Pv true,.pointer D] 73)).heap.size by simp];exact Ph _ _
 have aW:=Y (fN aj);have bF:=Y am;have cq:=Y z;have aC:=ap;have b{G}(h:G:=by
 refine zc (G:=?GG) (λch=>?ways) ?rest
 case ways=>
  refine UC 16 λa=>?_;refine KW ?_;refine uh 5 (Pv true) (a) ?_;refine zf ?_;refine Hg ?_;refine uh 13 (Pv true) (a) ?_;refine uh 14 (.agg #[PL s 0,O3 d,Pv true]) (a) ?_;refine Rl 15 λK c=>?_;go_simp;refine kG ?_;clear c K;refine uaZ 16 ?_;refine TQ ?_ _;go_simp;exact ch
 case rest=>
  clear bG p
  let p:Bool:=true
  exact A8):=O6 h;exact Kj):=O6 h;exact zb):=O6 h;exact A5
def Rp :
  Pq 60 #[O5 k,O5 u.p,.agg #[O3 d,O3 E,Pv false,.pointer D]] w λm w'=>m=PK (vA (UH g.M.objs.length))/\∃ bE,Mx M k l q I F A bE w' { g with Ri:=g.Ri++[⟨ah,d,p⟩],M:=g.M.Qj (3+g.Ri.length) }/\SL k A r A bE w w':=by
 have b{G}(h:G:=by
 obtain⟨o,z⟩:=xE ((w.alloc (.cells #[O3 d,O3 E,Pv false,.pointer D] 73)).alloc (.cells #[O3 0,O3 0,Qn] 65));have b{G}(h:G:=by
 have aj:o.heap[W]? = some (PZ #[O3 d,O3 E,Pv false,.pointer D] 73):=by
  rw[z,bu];exact fY (Ph _ _)
 have am:o.heap[H]? = some (PZ #[O3 0,O3 0,Qn] 65):=by
  rw[z,bh,show w.heap.size+1=(w.alloc (.cells #[O3 d,O3 E,Pv false,.pointer D] 73)).heap.size by simp];exact Ph _ _
 have aW:=Y (fN aj);have bF:=Y am;have cq:=Y z;have aC:=ap;have ck:=Y (PN ap aS);have ci:=Y (PN ap br);have b{G}(h:G:=by
 refine zc (G:=?GG) (λch=>?ways) ?rest
 case ways=>
  refine UC 16 λa=>?_;refine KW ?_;refine uh 5 (Pv false) (a) ?_;refine up 6 s 0 a ?_;refine up 7 s 0 a ?_;refine up 8 s 3 a ?_;refine uk 9 ck.out a ?_;refine up 10 cl 1 a ?_;refine uk 11 ci.out a ?_;refine jS 12 15 (λK c=>?ca) λK c=>?cb
  case' ca=>
   go_simp;refine cm (O4 bG _ (a)) ?_;rintro m t ⟨rfl,f⟩;rw[f];clear f t;refine c.out _ _ (λ_=>a) ?_;clear c K;refine uh 13 (Pv p) (a) ?_ (bi:=fM ⟨by kernel_rfl,λ_ _=>p.rec (by go_simp) (by go_simp)⟩);refine uh 14 (.agg #[PL s 0,O3 d,Pv p]) (a) ?_;refine Rl 15 λK c=>?_;go_simp;refine c.out _ _ (λ_=>QJ.drew) ?_;clear c K;refine uaZ 16 ?_;refine TQ ?_ _
  case' cb=>
   go_simp;refine c.out _ _ (λ_=>QJ.drew) ?_;clear c K;refine Rl 12 λK c=>?_;go_simp;refine cm (O4 bG _ (QJ.drew)) ?_;rintro m t ⟨rfl,f⟩;rw[f];clear f t;refine c.out _ _ (λ_=>QJ.drew) ?_;clear c K;refine uh 13 (Pv p) (QJ.drew) ?_ (bi:=fM ⟨by kernel_rfl,λ_ _=>p.rec (by go_simp) (by go_simp)⟩);refine uh 14 (.agg #[PL s 0,O3 d,Pv p]) (QJ.drew) ?_;refine uaZ 16 ?_;refine TQ ?_ _
  all_goals
   go_simp;exact ch
 case rest=>
  exact A8):=O6 h;exact Kj):=O6 h;exact zb):=O6 h;exact A5
end
end
abbrev aP (a:Ad):Px:=O5 a.p
def TY (c:Nat)(b:Pe)(d:Px)(a:List Ad):Prop:=b.ownsRow c 22 1 d a.length (a.map aP)/\RX (λ_=>True) b a
def RX.of {c:Nat->Prop}{d:Pe}:∀ (a:List Ad),(∀ b ∈ a,Tf c d b)->RX c d a
 | [],_=>by rw[RX];trivial
 | x::a,h=>by rw[RX];exact⟨h x P7,RX.of a λb e=>h b (by simp[e])⟩
section
variable {a:Nat} {w w':Pe} {c:Px} {b:List Ad} (h:TY a w c b)
include a w w' c b h
def TY.kp (d:Kp w w'):TY a w' c b:=⟨jU h.1 λ_ _ _ e=>d _ _ _ e (fU rfl),RX.kp d _ h.2⟩
def TY.fH (d:Pn w w'):TY a w' c b:=h.kp (Kp.of d)
end
section
variable {g:Nat} {d:Pe} {e:Px} {a:List Ad} (h:TY g d e a)
include g d e a h
def TY.form:∃ b c,e=.slice b a.length c:=PW h.1
def TY.cell (c:Nat)(i:c<a.length):∃ b f,e=.slice (some (O7 b 0)) a.length f/\b<d.heap.size/\d.cell? (O7 b c)=some (O5 (a[c]).p)/\Tf (λ_=>True) d a[c]:=by
 obtain⟨b,f,rfl,_,_⟩:=h.1.form O9;refine⟨b,f,rfl,(h.1.lt b rfl).2,?_,RX.mem a h.2 _ (gT _)⟩;rw[h.1.cellAt c O9];simp[i]
end
def Tf.row {c:Pe}{a:Ad}(h:Tf (λ_=>True) c a):∃ b,c.cell? (O7 a.p 3)=some b/\TY 0 c b a.ks/\a.p<c.heap.size:=by
 cases a with
 | mk p m q o n=>
  rw[Tf] at h;obtain⟨_,j,⟨b,d,g⟩,f⟩:=h;obtain⟨k,l,_,i,_⟩:=fZ d;refine⟨b,i,⟨?_,f⟩,fI d⟩;have e:=g.1;rw[gu,lp] at e;exact e
def aoJ (u:Ad)(w:Pe)(h:Tf (λ_=>True) w u):Pq 120 #[O5 u.p] w λm d=>(∃ a,m=PK a/\TY 0 w a u.ks)/\d=w:=by
 obtain⟨a,f,X,g⟩:=Tf.row h;obtain⟨ua,uc,rfl⟩:=X.form;obtain⟨i,b⟩:=xE u.p;rw[<-b] at f g ⊢;clear h b;go_enter func120,ntmps120;go_wp2;go_ret;exact⟨⟨_,rfl,X⟩,rfl⟩
def ZO (w:Nat)(n:Tr->Bool)(aI:WM w)
  (I:∀ c F b,TV b c F->Pq w #[O5 F] b λd q=>d=PK (Pv (n c))/\q=b)
  (f:Ad) (p:Pe) (h:Tf (λ_=>True) p f) (ah:f.ks.length<=90000) :
  Pq 129 #[O5 f.p,uU w] p λd q=>(∃ o,d=PK o/\TY p.heap.size q o (f.ks.filter λa=>n a.tr))/\Pn p q:=by
 obtain⟨W,R,S,O,P⟩:=gY hV;have s:=aoJ f p h;have ad:=Y I;clear h I
 generalize ac:f.ks=c at s ah
 obtain⟨F,L⟩:=xE f.p;rw[<-L] at s ⊢;clear ac L f;have b{G}(h:G:=by
 go_loopw [5,11] (λe D wr=>∃ (a:Nat) (j:List Ad),a<=c.length/\D=O3 a/\wr.ownsRow l.heap.size 22 1 e j.length (j.map aP)/\j=((c.take a).filter λa=>n a.tr)/\Pn l wr) (λ_ D _=>c.length - (intOf D).toNat)
 case atStart=>exact⟨0,[],f3 _,rfl,⟨rfl,fM ⟨rfl,rfl⟩⟩,rfl,RP⟩
 case round=>
  obtain⟨a,j,ax,rfl,N,E,e⟩:=hrel;have k:=N;have C:=Y E;obtain⟨ay,aG,rfl⟩:=TK N;have aF:j.length<=a:=by
   rw[E];have:=hp (λa=>n a.tr) (c.take a);rw[hC] at this;omega
  clear E
  by_cases H:a<c.length
  ·obtain⟨u,aD,B,U,t,ai⟩:=z.cell a H;have b{G}(h:G:=by
   obtain⟨g,A⟩:=xH ((c[a]).p);rw[<-A.out] at t;have b{G}(h:G:=by
   have i:=O4 ad c[a].tr g wr (by rw[A.out];exact ai.nat.nt.fH e)
   have M:=Y (g3 H);have aC:u<wr.heap.size:=O9;have X:=Y (QD k);clear t
   cases m:n c[a].tr with
   | true=>
    rw[m] at i;have v:=Y m;clear m;have b{G}(h:G:=by
    have b{G}(h:G:=by
    go_roundw
    case rel=>
     refine⟨a+1,j++[c[a]],by omega,by go_num,?_,?_,T⟩
     ·rw[gj,gM];have h:=hown';rw[A.out] at h;exact h
     ·rw[M.out,lx,<-C.out];simp only[ia,v.out,lG,hz]
    case measure=>simp[intOf];omega):=O6 h;exact Cr):=O6 h;exact mj
   | false=>
    rw[m] at i;have v:=Y m;clear m;have b{G}(h:G:=by
    go_wp2
    go_roundw
    case rel=>
     refine⟨a+1,j,by omega,by go_num,k,?_,e⟩;rw[M.out,lx,<-C.out];simp only[ia,v.out,lG,iI,iC,i8]
    case measure=>simp[intOf];omega):=O6 h;exact mj):=O6 h;exact Jr):=O6 h;exact UM
  ·have i:a=c.length:=O9;subst i;go_wp2;go_ret;have h:=O4 C;rw[gO] at h;subst h;exact⟨⟨_,rfl,k,RX.of _ λx g=>Tf.fH (Below.gx e) _ (RX.mem _ z.2 x (ls.1 g).1)⟩,e⟩):=O6 h;exact A9
section
variable (u:Ad) (w:Pe) (h:Tf (λ_=>True) w u) (b:u.ks.length<=90000)
include u w h b
def Yu :
  Pq 59 #[O5 u.p] w λm d=>(∃ a,m=PK a/\TY w.heap.size d a (u.ks.filter λj=>SH j.tr))/\Pn w d:=by
 have f:=ZO 130 SH Bf Dx u w h b;clear h;go_enter func59,ntmps59;exact tq
def Fk :
  Pq 77 #[O5 u.p] w λm d=>(∃ a,m=PK a/\TY w.heap.size d a (u.ks.filter λj=>Qk j.tr))/\Pn w d:=by
 have f:=ZO 163 Qk Bw F6 u w h b;clear h;go_enter func77,ntmps77;exact tq
end
def kN (c:Int)(b:Py)(d:Va)(a:Mo):Mo:=if (a.f4 c b 0 d).1=0 then (a.f4 c b 0 d).2 else (a.write c b d).2
def Gz (c:Int)(b:Py)(d:Va)(a:St):settle c b d a={ a with M:=kN c b d a.M }:=by
 unfold settle kN St.hi
 split <;> rfl
def Jg:U4 0=QW:=rfl
def w7 {a:Int}(h:a≠0):U4 a=.iface 34 (O3 a):=by unfold U4;rw[fK h]
def as9 {a:Mo}(c:Int)(b:Py)(d:Va):(a.f4 c b 0 d).1≠0->(a.f4 c b 0 d).2=a:=by
 unfold Mo.f4
 split
 ·intro _;rfl
 ·split
  ·intro _;rfl
  ·split
   ·intro _;rfl
   ·intro h;exact absurd rfl h
def Mo.Go.kN {d:Mo}{e:Nat}(h:d.Go e)(b:Int)(a:Py)(c:Va):(Hp.kN b a c d).Go (e+1):=by
 unfold Hp.kN
 split
 ·exact h.f4 b a 0 c
 ·exact h.write b a c
section
variable {k:Nat} {R:List Px} {w o:Pe} {d:Mo} {l:Nat}
section
variable (h:Qx k R w d) (ay:d.Go l) (q:l<1000000000) (g:Int) (b:Py) (v:Va)
include h ay q g b v
def Rm (aO:(d.f4 g b 0 v).1=0) :
  Pq 270 #[O5 k,O3 g,Pj b,vA v] w λm o=>m=PK (.tuple #[])/\Qx k R o (kN g b v d)/\Ql Th k w o:=by
 have T:=h.lt;have p{G}(h:G:=by
 have p{G}(h:G:=by
 have E:=h.fH A;have s:=Y (λL (i:Pn D L)=>X4 ((h.fH A).fH i) ay.sm (P6 q) g b 0 v);clear h r;have z:kN g b v d=(d.f4 g b 0 v).2:=by unfold kN;rw[fL aO]
 rw[z];rw[aO,Jg] at s;have p{G}(h:G:=by
 refine uz 7 (Pv false) ?_;refine TQ ?_ _;go_simp;go_wp2
 go_end0
 exact⟨rfl,B,ac⟩):=O6 h;exact Hi):=O6 h;exact BQ):=O6 h;exact JT
def alY (aO:(d.f4 g b 0 v).1≠0) :
  Pq 270 #[O5 k,O3 g,Pj b,vA v] w λm o=>m=PK (.tuple #[])/\Qx k R o (kN g b v d)/\Ql Th k w o:=by
 have T:=h.lt;have p{G}(h:G:=by
 have p{G}(h:G:=by
 have am:=Y r;have aJ:=h.fH A;have s:=Y (λL (i:Pn D L)=>X4 ((h.fH A).fH i) ay.sm (P6 q) g b 0 v);clear h r;have z:kN g b v d=(d.write g b v).2:=by unfold kN;rw[fK aO]
 rw[z];rw[w7 aO,as9 g b v aO] at s;obtain⟨aQ,E⟩:=xE ((d.f4 g b 0 v).1);rw[<-E] at s;clear E;have p{G}(h:G:=by
 have I:=Y (W.rest aj _ 65 (fQ a am.out) Pm);refine uz 7 (Pv true) ?_;refine TQ ?_ _;have ah:=Y (λL (i:Pn aF L)=>yC (B.fH i) ay.sm (P6 q) g b v);have ap:=Y (fX I.out);have ax:=B.lt;have aK:=fI I.out;go_simp;go_wp2_with fail;refine UC 6 λa=>?_;refine iy ?_;refine uh 3 (O3 g) (a) ?_;refine uh 4 (Pj b) (a) ?_;refine jN 5 ap.out a ?_;refine Rl 6 λK c=>?_;go_simp;refine cm (O4 ah _ a) ?_;rintro m aN ⟨rfl,aD,aC⟩;refine ko c ?_;clear c K
 have au:=ac.trans ((Ql.of a (P6 ax)).trans aC);refine TQ ?_ _;go_simp;go_wp2
 go_end0
 exact⟨rfl,aD,au⟩):=O6 h;exact Hi):=O6 h;exact BQ):=O6 h;exact JT
def ata :
  Pq 270 #[O5 k,O3 g,Pj b,vA v] w λc o=>c=PK (.tuple #[])/\Qx k R o (kN g b v d)/\Ql Th k w o:=by
 by_cases a:(d.f4 g b 0 v).1=0
 ·exact Rm h ay q g b v a
 ·exact alY h ay q g b v a
end
def Zj (b:Int)(c:List Tr)(d:Mo):Mo:=c.foldl (λd a=>(d.f4 b a.tx (if a.kd=4 then 2 else 1) vU).2) d
def GY (b:List Tr)(c:Int):∀ a:St,QS b c a={ a with M:=Zj c b a.M }:=by
 unfold QS Zj
 induction b with
 | nil=>intro a;rfl
 | cons f b e=>intro a;rw[k1,e];rfl
def alZ (c:Int)(b:List Tr)(d:Mo)(a:Nat)(e:a<b.length):Zj c (b.take (a+1)) d=((Zj c (b.take a) d).f4 c (b[a]).tx (if (b[a]).kd=4 then 2 else 1) vU).2:=by
 unfold Zj;rw[g3 e,iM];rfl
def Mo.Go.lets (b:Int):∀ (a:List Tr) {d:Mo} {l:Nat},d.Go l->(Zj b a d).Go (l+a.length)
 | [],_,_,h=>h
 | c::a,d,l,h=>by
  have:=Mo.Go.lets b a (h.f4 b c.tx (if c.kd=4 then 2 else 1) vU);rw[gL,show l+(a.length+1)=l+1+a.length by omega];exact this
def Se (b:Tr->Bool)(a:List Ad):(a.filter λc=>b c.tr).map Ad.tr=(a.map Ad.tr).filter b:=by rw[mJ];rfl
def Nj (h:Qx k R w d)(ay:d.Go l){u:Ad}(ap:Tf (λ_=>True) w u)(ai:u.ks.length<=90000)(aV:l+u.ks.length<1000000000)(g:Int) :
  Pq 57 #[O5 k,O5 u.p,O3 g] w λm o=>m=PK (.tuple #[])/\Qx k R o (Zj g (Qd u.tr) d)/\Ql Th k w o:=by
 have aN:=h.lt;have A:=Fk u w ap ai;obtain⟨f,t⟩:=xE (u.ks.filter λj=>Qk j.tr);have au:Qd u.tr=f.map Ad.tr:=by unfold Qd;rw[t,Se,u.s0.2.2]
 have aS:f.length<=u.ks.length:=by rw[t];exact hp _ _
 rw[<-t] at A;rw[au];have aI:=h;obtain⟨bu,am⟩:=xE u.p;rw[<-am] at A ⊢;have be:l+f.length<1000000000:=O9;have bf:f.length<=90000:=O9;clear h ap t au am aS aV ai;go_enter func57,ntmps57;go_wp2_with fail;refine cm A ?_;rintro m aY ⟨⟨bv,rfl,X⟩,ax⟩;obtain⟨ua,bm,rfl⟩:=X.form;have aC:=aI.fH ax;have aW:=aC.lt;go_wp2_with fail
 go_loopw [12] (λn wr=>∃ j:Nat,j<=f.length/\n=O3 j/\Qx k R wr (Zj g ((f.map Ad.tr).take j) d)/\Ql Th k aY wr) (λn _=>f.length - (intOf n).toNat)
 case atStart=>exact⟨0,f3 _,rfl,aC,Ql.of RP (P6 aW)⟩
 case round=>
  obtain⟨j,ai,rfl,aD,b8⟩:=hrel;have z:=aD;have aZ:=aD.lt
  by_cases T:j<f.length
  ·obtain⟨bo,bj,B,bq,aJ,aK⟩:=(X.kp (Ql.kp b8)).cell j T;have b{G}(h:G:=by
   have bn:(j:Int)<(f.length:Int):=O9;obtain⟨aQ,s,C,_⟩:=TV.cells aK.nat.nt;have aF:j<(f.map Ad.tr).length:=by simpa using T
   have p:=Y (alZ g (f.map Ad.tr) d j aF);have I:(f.map Ad.tr)[j]=(f[j]).tr:=by simp
   rw[I] at p;obtain⟨aj,ah⟩:=xE ((f[j]).p);obtain⟨q,W⟩:=xE ((f[j]).tr);rw[<-ah] at aJ aQ s C;rw[<-W] at s C p;have D:(Zj g ((f.map Ad.tr).take j) d).Go (l+j):=by
    have:=Mo.Go.lets g ((f.map Ad.tr).take j) ay;rw[hC,gu,lL ai] at this;exact this
   obtain⟨bh,H⟩:=xE (Zj g ((f.map Ad.tr).take j) d);rw[<-H] at z p D;have aG:l+j<1000000000:=O9;have ci:=Y C;clear I ah W H aF
   by_cases r:q.kd=4
   ·rw[fL r] at p;have ac:q.kd=4:=r;rw[ac] at s;clear r ac;go_wp2_with fail;have F:=Y (λL (i:Pn wr L)=>X4 (z.fH i) D.sm (P6 aG) g q.tx 2 vU);have b{G}(h:G:=by
    refine uh 8 (O3 2) (a) ?_;exact LJ):=O6 h;exact JU
   ·rw[fK r] at p;obtain⟨br,ac⟩:=xE q.kd;rw[<-ac] at s r;clear ac;go_wp2_with fail;have F:=Y (λL (i:Pn wr L)=>X4 (z.fH i) D.sm (P6 aG) g q.tx 1 vU);have b{G}(h:G:=by
    refine uh 8 (O3 1) (a) ?_;exact LJ):=O6 h;exact JU):=O6 h;exact UM
  ·have a:j=f.length:=O9;subst a;go_wp2
   go_end0
   have h:=z;rw[show f.length=(f.map Ad.tr).length by simp,gO] at h;exact⟨rfl,h,(Ql.of ax (P6 aN)).trans b8⟩
end
structure Sz (N:Nat)(σ:St):Prop where
 go:σ.M.Go N
 ow:σ.Rx.length<=N
 fn:σ.Ri.length<=N
 lg:σ.hq.length<=N
 se:σ.seen.length<=N
 oe:σ.Rx.length=σ.M.Pz.length
def Sz.up {b N':Nat}{σ:St}(h:Sz b σ)(a:b<=N'):Sz N' σ:=⟨h.go.up a,f9 h.ow a,f9 h.fn a,f9 h.lg a,f9 h.se a,h.oe⟩
def Sz.heap {e b:Nat}{d:St}{c:Mo}(h:Sz e d)(a:e<=b)(g:c.Go b)(f:c.Pz.length=d.M.Pz.length):Sz b { d with M:=c }:=⟨g,f9 h.ow a,f9 h.fn a,f9 h.lg a,f9 h.se a,h.oe.trans f.symm⟩
def wc (a:Mo)(c:Int)(b:Py)(d:Va)(fx:Bool):(a.put c b d fx).2.Pz.length=a.Pz.length:=by
 unfold Mo.put
 repeat' split
 all_goals first|rfl|simp[Mo.Uh]
def V7 (a:Mo)(d:Int)(c:Py)(b:Int)(e:Va):(a.f4 d c b e).2.Pz.length=a.Pz.length:=by
 unfold Mo.f4
 repeat' split
 all_goals first|rfl|simp[Mo.Tj]
def Zh (a:Mo)(c:Int)(b:Py)(d:Va):(a.write c b d).2.Pz.length=a.Pz.length:=by
 unfold Mo.write
 repeat' split
 all_goals first|rfl|exact wc _ _ _ _ _|simp[Mo.Tj]
def al0 (c:Int)(b:Py)(d:Va)(a:Mo):(kN c b d a).Pz.length=a.Pz.length:=by
 unfold kN
 split
 ·exact V7 _ _ _ _ _
 ·exact Zh _ _ _ _
def Ew (c:Int):∀ (a:List Tr) (b:Mo),(Zj c a b).Pz.length=b.Pz.length
 | [],_=>rfl
 | _::a,_=>(Ew c a _).trans (V7 _ _ _ _ _)
section
variable {a:Nat} {b:St} (h:Sz a b)
include a b h
def Sz.settle (d:Int)(c:Py)(e:Va):Sz (a+1) (settle d c e b):=by
 rw[Gz];exact h.heap (ge _) (h.go.kN d c e) (al0 _ _ _ _)
def Sz.f5 (c:Nd)(d:Pl):Sz (a+1) (f5 c d b).2:=
 ⟨h.go.Qj _,gF h.ow,by have:=h.fn;simp[Hp.f5];omega,gF h.lg,gF h.se,h.oe⟩
def Sz.gq (d c x:Int):Sz (a+1) (b.gq d c x):=
 ⟨h.go.scope _ _,by have:=h.ow;simp[St.gq];omega,gF h.fn,gF h.lg,gF h.se,by have:=h.oe;simp[St.gq,Mo.scope,this]⟩
def Sz.lets (c:List Tr)(d:Int):Sz (a+c.length) (QS c d b):=by
 rw[GY];exact h.heap O9 (h.go.lets d c) (Ew _ _ _)
end
def UW (a:List Nat)(b:Pe):List Ad->List Nd->Prop
 | [],[]=>True
 | e::f,d::c=>PX a b e d/\UW a b f c
 | _,_=>False
def UW.of {g:List Nat}{j:Pe}:∀ (b:List Ad) (a:List Nd),b.length=a.length->(∀ (c:Nat) d,b[c]? = some d->∃ e,a[c]? = some e/\PX g j d e)->UW g j b a
 | [],[],_,_=>trivial
 | [],_::_,h,_=>by simp at h
 | _::_,[],h,_=>by simp at h
 | m::b,n::a,h,f=>by
  refine⟨?_,UW.of b a (by simpa using h) λc d l=>by simpa using f (c+1) d (by simpa using l)⟩;obtain⟨e,i,k⟩:=f 0 m rfl;simp at i;subst i;exact k
def PX.lT {b:List Nat}{d:Pe}{a:Ad}{c:Nd}(h:PX b d a c):UW b d a.ks (QB c):=UW.of _ _ (by rw[h.ks,RU]) λ_ _ e=>h.gK e
def UW.filter {e:List Nat}{f:Pe}(c:Tr->Bool):∀ (b:List Ad) (a:List Nd),UW e f b a->UW e f (b.filter λd=>c d.tr) (a.filter λd=>c d.2)
 | [],[],_=>trivial
 | [],_::_,h=>h.elim
 | _::_,[],h=>h.elim
 | i::b,g::a,h=>by
  rw[ia,ia,h.1.tr]
  split
  ·exact⟨h.1,UW.filter c b a h.2⟩
  ·exact UW.filter c b a h.2
def UW.get {f:List Nat}{g:Pe}:∀ (c:List Ad) (b:List Nd),UW f g c b->∀ (a:Nat) (e:a<c.length) (d:a<b.length),PX f g c[a] b[a]
 | [],_,_,a,e,_=>by simp at e
 | _::_,[],_,a,_,d=>by simp at d
 | _::_,_::_,h,0,_,_=>h.1
 | _::c,_::b,h,a+1,e,d=>UW.get c b h.2 a (by simpa using e) (by simpa using d)
def UW.len {c:List Nat}{d:Pe}:∀ (b:List Ad) (a:List Nd),UW c d b a->b.length=a.length
 | [],[],_=>rfl
 | [],_::_,h=>h.elim
 | _::_,[],h=>h.elim
 | _::b,_::a,h=>by rw[gL,gL,UW.len b a h.2]
def UW.kp {e:List Nat}{f c:Pe}(d:Kp f c):∀ (b:List Ad) (a:List Nd),UW e f b a->UW e c b a
 | [],[],_=>trivial
 | [],_::_,h=>h.elim
 | _::_,[],h=>h.elim
 | _::b,_::a,h=>⟨h.1.kp d,UW.kp d b a h.2⟩
def YK (c:Pl)(d:List Nd)(a:St):St:=d.foldl (λa b=>settle c.scope b.2.tx (f5 b c a).1 (f5 b c a).2) a
def al1 (c:Pl)(a:List Nd)(d:St)(b:Nat)(e:b<a.length):YK c (a.take (b+1)) d=settle c.scope (a[b]).2.tx (f5 a[b] c (YK c (a.take b) d)).1 (f5 a[b] c (YK c (a.take b) d)).2:=by
 unfold YK;rw[g3 e,iM];rfl
def Sz.YK (c:Pl):∀ (a:List Nd) {d:St} {b:Nat},Sz b d->Sz (b+2 * a.length) (YK c a d)
 | [],_,_,h=>h
 | e::a,d,b,h=>by
  have:=Sz.YK c a ((h.f5 e c).settle c.scope e.2.tx (Hp.f5 e c d).1);rw[gL,show b+2 * (a.length+1)=b+1+1+2 * a.length by omega];exact this
section
variable {R:Pe} {a M:Nat} {p:List Nat} {s I H f D:Px} {w w':Pe} {d:St} {t:Nat}
section
variable (b:Mx R a M p I H f D w d)
include b
def q5 {m:Ad}{c:Nd}(o:PX p w m c)(k:c.2.fJ.length=2)(i:Sz t d)(j:t<1000000000)(e:Pl)(g:Option Addr) :
  Pq 60 #[O5 a,O5 m.p,Qy e g] w λu w'=>u=PK (vA (f5 c e d).1)/\∃ l,Mx R a M p I H f l w' (f5 c e d).2/\SL a f D f l w w':=by
 obtain⟨r,n,v⟩:=e;have q:d.Ri.length<=1000000000:=P6 (mH i.fn j)
 cases v with
 | true=>
  have h:=alU b o k q i.go.sm (P6 j) r n g _ rfl;unfold f5;rw[Bool.true_or];exact h
 | false=>
  have h:=Rp b o k q i.go.sm (P6 j) r n g _ rfl;unfold f5;rw[m6];exact h
def D5 (k:Sz t d)(m:t<1000000000)(e:Int)(c:Py)(g:Va) :
  Pq 270 #[O5 a,O3 e,Pj c,vA g] w λj w'=>j=PK (.tuple #[])/\Mx R a M p I H f D w' (settle e c g d)/\Ql Th a w w':=by
 refine(ata b.hh k.go m e c g).mono ?_;rintro j w' ⟨rfl,l,i⟩;rw[Gz];exact⟨rfl,b.heap l i,i⟩
def uI (m:Sz t d){j:Ad}{c:Nd}(e:PX p w j c)(l:c.2.fJ.length<=90000)(o:t+c.2.fJ.length<1000000000)(g:Int) :
  Pq 57 #[O5 a,O5 j.p,O3 g] w λk w'=>k=PK (.tuple #[])/\Mx R a M p I H f D w' (QS (Qd c.2) g d)/\Ql Th a w w':=by
 have h:=Nj b.hh m.go e.at_ (by rw[e.ks];exact l) (by rw[e.ks];exact o) g
 rw[e.tr] at h;refine h.mono ?_;rintro k w' ⟨rfl,n,i⟩;rw[GY];exact⟨rfl,b.heap n i,i⟩
end
def Xq {c b:Nat}{i:Array Px}{g:TypeId}(h:w.heap[c]? = some (PZ i g))(e:a<=c)(x:Px):Ql [g] a w (w.setCell (O7 c b) x):=
 Ql.setCell (Ql.of RP (f9 e (P6 (fI h)))) h P7 e _
def tY {c e:Nat}(g:w.heap.size<=c)(x:Px)(b:Nat)(i:b<w.heap.size):(w'.setCell (O7 c e) x).heap[b]? = w'.heap[b]?:=gV _ _ _ _ (show b≠c by omega)
def PX.gw {u:Ad}{c:Nd}(h:PX p w u c):∃ b,w.heap[u.p]? = some (PZ b 40):=by
 have ad:=h.at_;exact ws
section
variable {l k:Px} (h:SL a f D l k w w') (i:Mx R a M p I H f D w d)
include l k h i
def SL.YJ {b g:Nat}{j:Px}(n:w.cell? (O7 b g)=some j)(c:∃ e,w.heap[b]? = some (PZ e 40)):w'.cell? (O7 b g)=some j:=by
 obtain⟨e,c⟩:=c;have m:w'.heap[b]? = w.heap[b]?:=(h.kp i b e 40 c (fM rfl)).trans c.symm;exact(gs (w:=w) (a:=(O7 b g)) m).trans n
def SL.fR {c:Nat}{e:Array Px}{b:TypeId}(g:w.heap[c]? = some (PZ e b))(j:b ∉ Tm):w'.heap[c]? = some (PZ e b):=(h.jn (o:=none) i).rest c e b g j P7
end
def Kr (aZ:Mx R a M p I H f D w d)(bu:Sz t d){u:Ad}{C:Nd}(ax:PX p w u C)(aC:C.2.fJ.length<=90000)(bV:t+2 * C.2.fJ.length<1000000000)(ak:∀ j ∈ Ul C,j.2.fJ.length=2)(A:Pl)(o:Option Addr) :
  Pq 199 #[O5 a,O5 u.p,Qy A o] w λm w'=>m=PK (.tuple #[])/\∃ T,Mx R a M p I H f T w' (Ut C A d)/\SL a f D f T w w':=by
 have bx:=aZ.lt;have b{G}(h:G:=by
 obtain⟨s,am⟩:=xE (u.ks.filter λj=>SH j.tr);obtain⟨k,hv⟩:=xE (Ul C);have bL:s.length<=C.2.fJ.length:=by rw[am,<-ax.ks];exact hp _ _
 have be:UW p w s k:=by rw[am,hv];exact UW.filter SH _ _ ax.lT
 have bj:=UW.len _ _ be;have aJ:=Yu u w2 (Tf.kp (Kp.of ap) _ ax.at_) (by rw[ax.ks];exact aC)
 rw[<-am] at aJ;have a6:∀ A,Ut C A d=YK A k d:=λA=>by rw[hv];rfl
 rw[a6];rw[<-hv] at ak;obtain⟨cq,a1⟩:=xE u.p;rw[<-a1] at aJ ⊢;have bK:=aZ.fH ap;have br:=UW.kp (Kp.of ap) _ _ be;have bD:=Y F;have bR:=Y ak;have b6:t+2 * s.length<1000000000:=O9;have b7:s.length<=90000:=O9;have bo:=Y bj;clear aC bV ak am hv bL a6 a1 F bj;go_enter func199,ntmps199;go_wp2_with fail;rw[<-aV.out,<-aD];clear aD;refine cm aJ ?_;rintro m b1 ⟨⟨cr,rfl,X⟩,aj⟩;obtain⟨ua,ck,rfl⟩:=X.form;have bF:=ap.trans (aj.mono ap.size);have ah:=bK.fH aj
 have bY:=UW.kp (Kp.of aj) _ _ br;have bW:=Y (fQ aj bD.out);have bZ:=ah.lt;go_wp2_with fail
 go_loopw [11] (λn wr=>∃ (j:Nat) (T:Px),j<=s.length/\n=O3 j/\Mx R a M p I H f T wr (YK ⟨l,q,r⟩ (k.take j) d)/\SL a f D f T b1 wr) (λn _=>s.length - (intOf n).toNat)
 case atStart=>exact⟨0,D,f3 _,rfl,ah,SL.of RP (P6 bZ)⟩
 case round=>
  obtain⟨j,b0,aC,rfl,bh,b8⟩:=hrel;have E:=bh;have aQ:=Y (b8.fR ah bW.out Pm);have bU:=bh.lt
  by_cases aG:j<s.length
  ·obtain⟨cn,ci,B,cp,bv,cf⟩:=(X.kp (b8.kp ah)).cell j aG;have b{G}(h:G:=by
   have cl:(j:Int)<(s.length:Int):=O9;have aI:j<k.length:=by rw[<-bo.out];exact aG
   have aX:=(UW.get _ _ bY j aG aI).kp (b8.kp ah);obtain⟨bG,_,U,_⟩:=aX.cells;have ac:=Y (al1 ⟨l,q,r⟩ k d j aI);have aW:Sz (t+2 * j) (YK ⟨l,q,r⟩ (k.take j) d):=by
    have:=(Sz.YK ⟨l,q,r⟩ (k.take j) bu);rw[hC,lL (P6 aI)] at this;exact this
   obtain⟨bE,bf⟩:=xE (YK ⟨l,q,r⟩ (k.take j) d);rw[<-bf] at E ac aW;have aY:=O4 bR k[j] (gT _);have au:=Y (λL (i:Pn wr L)=>q5 (E.fH i) (aX.kp (Kp.of i)) aY aW O9 ⟨l,q,r⟩ o);obtain⟨z,bc⟩:=xE ((s[j]).p);obtain⟨aN,bn⟩:=xE (k[j]);have aF:=aX.gw;rw[<-bc] at bv bG U au aF;rw[<-bn] at U ac au;have b2:=aW.f5 aN ⟨l,q,r⟩;obtain⟨bI,bm⟩:=xE ((f5 aN ⟨l,q,r⟩ bE).1);obtain⟨ai,a7⟩:=xE aN.2.tx;rw[<-bm] at au ac;rw[<-a7] at U ac
   have b3:t+2 * j+1<1000000000:=O9;have ch:=fI aQ.out;have ba:=Y U;have b4:Hid (∃ e,wr.heap[z]? = some (PZ e 40)):=aF;clear aF bf aY bc bn bm a7 U;go_wp2_with fail;have g:(λL=>L.heap[W]? = some (pM ⟨l,q,r⟩ o)/\L.cell? (O7 z 1)=some (Pj ai)) wr.drew:=⟨aQ.out,ba.out⟩;refine Qq 11 (λL=>L.heap[W]? = some (pM ⟨l,q,r⟩ o)/\L.cell? (O7 z 1)=some (Pj ai)) Qs ?_;refine up 0 a 0 g ?_;refine up 1 W 0 g ?_
   refine uc 2 (O3 l) rfl (fM ⟨by kernel_rfl,λL i=>by have aO:=(fN i.1).1;go_simp⟩) (g) ?_
   refine up 3 z 0 g ?_;refine up 4 z 0 g ?_;refine up 5 z 1 g ?_;refine uc 6 (Pj ai) rfl (fM ⟨by kernel_rfl,λL i=>by have aO:=i.2;go_simp⟩) (g) ?_
   refine up 7 a 0 g ?_;refine up 8 z 0 g ?_;refine uc 9 (.agg #[O3 l,O3 q,Pv r,.pointer o]) rfl (fM ⟨by kernel_rfl,λL i=>by have aO:=(fN i.1).1;have ad:=(fN i.1).2.1;have ak:=(fN i.1).2.2.1;have b9:=(fN i.1).2.2.2.1;go_simp⟩) (g) ?_
   refine Rl 10 λK c=>?_;go_simp;refine cm (O4 au _ RP.drew) ?_;rintro m aK ⟨rfl,bM,bQ,bB⟩;have aS:SL a f b0 f bM wr aK:=(SL.of RP.drew (P6 bU)).trans bB;have bq:aK.heap[W]? = some (pM ⟨l,q,r⟩ o)/\aK.cell? (O7 z 1)=some (Pj ai):=⟨aS.fR E aQ.out Pm,aS.YJ E ba.out b4.out⟩;refine c.out _ _ (λ_=>bq) ?_;clear c K;have bC:=b8.trans aS;refine Rl 11 λK c=>?_;go_simp;refine cm (D5 bQ b2 b3 l ai bI) ?_;rintro m cg ⟨rfl,bS,bT⟩;refine ko c ?_;clear c K
   have bO:=bC.trans (SL.jR bT);clear bq g;refine TQ ?_ _;go_simp;go_wp2
   go_roundw
   case rel=>
    refine⟨j+1,_,by omega,by go_num,?_,bO⟩;rw[ac.out];exact bS
   case measure=>simp[intOf];omega):=O6 h;exact UM
  ·have e:j=s.length:=O9;subst e;go_wp2
   go_end0
   rw[bo.out,gO] at E;exact⟨rfl,_,E,(SL.of bF (P6 bx)).trans b8⟩):=O6 h;exact m9
end
section
variable {w:Pe} {a:Nat} {x y g j:Px} {o:TypeId} (h:w.heap[a]? = some (PZ #[x,y,g,j] o))
include w a x y g j o h
def lR (b c d e:Px) :
  ((((w.setCell (O7 a 0) b).setCell (O7 a 1) c).setCell (O7 a 2) d).setCell (O7 a 3) e).heap[a]? = some (PZ #[b,c,d,e] o):=by
 have i{G}(h:G:=by
 have k:=hk _ a 3 _ o e f;exact k):=O6 h;exact uY
def ZB (b:Px) :
  (w.setCell (O7 a 0) b).heap[a]? = some (PZ #[b,y,g,j] o):=hk w a 0 _ o b h
end
section
variable {M:Pe} {k aQ:Nat} {I:List Nat} {dz bc a7 T D:Px} {w t:Pe} {p:St} {a6:Nat}
def UY {a:Nat}{x y g l:Px}{o:TypeId}(h:w.heap[a]? = some (PZ #[x,y,g,l] o))(e:k<=a)(b c d j:Px):Ql [o] k w ((((w.setCell (O7 a 0) b).setCell (O7 a 1) c).setCell (O7 a 2) d).setCell (O7 a 3) j):=by
 have i{G}(h:G:=by
 exact Ql.setCell (Ql.setCell (Ql.setCell (Ql.setCell (Ql.of RP (f9 e (P6 (fI h)))) h P7 e _) n P7 e _) m P7 e _) f P7 e _):=O6 h;exact uY
def Ws {a:Nat}(i:w.heap.size<=a)(d f g e:Px)(c:Nat)(j:c<w.heap.size):((((t.setCell (O7 a 0) d).setCell (O7 a 1) f).setCell (O7 a 2) g).setCell (O7 a 3) e).heap[c]? = t.heap[c]?:=by
 have b:c≠a:=O9;rw[gV _ _ _ _ b,gV _ _ _ _ b,gV _ _ _ _ b,gV _ _ _ _ b]
def Si (a:Tr):a.fJ.length<a.count:=by
 cases a with
 | mk d f e c=>
  rw[fW];have h:∀ b:List Tr,b.length<=Tr.f1 b:=by
   intro b
   induction b with
   | nil=>simp
   | cons a b g=>
    rw[PS,gL];have:1<=a.count:=by cases a with|mk d f e c=>rw[fW];omega
    omega
  have:=h c
  show c.length<_
  omega
def pi (g:Mx M k aQ I bc a7 T D w p)(d:Sz a6 p)(e:a6<1000000000)(a b x:Int)(f:(p.M.ro a).isSome=true) :
  Pq 50 #[O5 k,O3 a,O3 b,O3 x] w λj t=>j=PK (O3 p.gg)/\∃ c,Mx M k aQ I bc a7 c D t (p.gq a b x)/\SL k T D c D w t:=
 mq g a b x (P6 (mH d.ow e)) λ_ _ i=>awr i d.go.sm (P6 e) a b f
def axd (cG:Bs M k aQ I dz)(bB:Mx M k aQ I bc a7 T D w p)(cD:Sz a6 p){u:Ad}{d:Nd}(aJ:PX I w u d)(dF:d.2.count<=1500)(dJ:a6+10000<1000000000)(ak:∀ j ∈ Ul d,j.2.fJ.length=2)(aK:Pl)(l:Option Addr)(dc:(p.M.ro aK.scope).isSome=true) :
  Pq 110 #[O5 k,O5 u.p,Qy aK l] w λm t=>m=PK (Qy (Qu d aK p).1 l)/\∃ b0 b1,Mx M k aQ I bc a7 b0 b1 t (Qu d aK p).2/\SL k T D b0 b1 w t:=by
 have b3:=bB.lt;obtain⟨q,f,g⟩:=aK;obtain⟨o,z⟩:=xE ((w.alloc (.cells #[O3 q,O3 f,Pv g,.pointer l] 73)).alloc (.cells #[O3 0,O3 0,Pv false,Ry] 73));have b{G}(h:G:=by
 have F:o.heap[W]? = some (PZ #[O3 q,O3 f,Pv g,.pointer l] 73):=by rw[z,bu];exact fY (Ph _ _)
 have ci:o.heap[H]? = some (PZ #[O3 0,O3 0,Pv false,Ry] 73):=by
  rw[z,bh,show w.heap.size+1=(w.alloc (.cells #[O3 q,O3 f,Pv g,.pointer l] 73)).heap.size by simp];exact Ph _ _
 have b{G}(h:G:=by
 have dH:=Si d.2;have cY:TV o d.2 u.p:=by rw[<-aJ.tr];exact(Tf.kp (Kp.of ap) _ aJ.at_).nat.nt
 have cA:=y9 d.2 u.p false o cY O9;have b{G}(h:G:=by
 have b4:=Y ci;have cq:=Y z;have aV:=Y bO;have bT:=Y cy;have bU:=Y bS;have b9:=cD;have dx:=cG;have cZ:=Y ak;obtain⟨aj,be⟩:=xE u.p;rw[<-be] at cA ⊢;have aS:=Y be;clear F ci z cy bO bS ak be
 by_cases ah:(gI d.2 false).length=0
 ·have ac:Qu d ⟨q,f,g⟩ p=(⟨q,f,g⟩,p):=by unfold Qu;rw[fL ah]
  rw[ac];clear ac;have b{G}(h:G:=by
  rw[ah];have C:=aF.fH s;have aD:=Y (fQ s b4.out);have bW:=SL.of (o:=T) (f:=D) (ap.trans (s.mono ap.size)) (P6 b3);obtain⟨b2,cu,b6,b7,aN,dn⟩:=fN (fQ s bx.out);obtain⟨cM,cL,cO,cV,r,dq⟩:=fN aD.out;have cP:=r 0;have cT:=r 1;have cU:=r 2;have de:=r 3;have cK:W≠H:=O4 bU;clear r aN ah;go_wp2_with fail;obtain⟨cJ,ax⟩:=xE ((((aZ.setCell (O7 H 0) (O3 q)).setCell (O7 H 1) (O3 f)).setCell (O7 H 2) (Pv g)).setCell (O7 H 3) (.pointer l));rw[<-ax]
  have aI:=lR aD.out (O3 q) (O3 f) (Pv g) (.pointer l);have bD:k<=H:=by have:=O4 aV;omega
  have aG:=UY aD.out bD (O3 q) (O3 f) (Pv g) (.pointer l);have aC:=bW.new aG (Ws aV.out _ _ _ _);have au:=C.ie aG Pm;rw[<-ax] at aI aC au;obtain⟨bn,bm,bj,bo,_,_⟩:=fN aI;exact Xp (v:=Qy ⟨q,f,g⟩ l) ⟨rfl,_,_,au,aC⟩):=O6 h;exact D8
 ·obtain⟨A,bR⟩:=xE (p.gg:Int);have ac:Qu d ⟨q,f,g⟩ p=(⟨A,f,g⟩,Ut d ⟨A,f,g⟩ (QS (Qd d.2) A (p.gq q (-1) (own d)))):=by unfold Qu;rw[fK ah,bR]
  rw[ac];clear ac;obtain⟨dk,cg⟩:=xE ((gI d.2 false).length);have dj:=Y cg;have dK:¬ (dk:Int)=0:=O9;clear cg ah;obtain⟨cr,bV⟩:=xE (own d:Int);rw[<-bV];have b{G}(h:G:=by
  rw[<-dj.out];have C:=aF.fH s;have aD:=Y (fQ s b4.out);have ch:=Y (fQ s bx.out);have br:=Y (fN (fQ s bx.out));have bY:=bf.kp (Kp.of s);have bW:=SL.of (o:=T) (f:=D) (ap.trans (s.mono ap.size)) (P6 b3);have bM:=Y (λL (i:Pn aZ L)=>ZA dx (C.fH i) (bY.kp (Kp.of i)));rw[<-aS.out,<-bV] at bM;have bE:=Y (λL (i:Pn aZ L)=>pi (C.fH i) b9 O9 q (-1) cr dc);rw[<-bR] at bE;have dl:=C.lt;have dM:=fI ch.out
  have dL:aj<aZ.heap.size:=by rw[aS.out];exact bY.cells.1
  clear bV bR;go_wp2_with fail;have b{G}(h:G:=by
  have ai:=(SL.of a (P6 dl)).trans aY;have a1:=Y (ai.fR C ch.out Pm);have am:=Y (ai.fR C aD.out Pm);have cR:=bY.kp (ai.kp C);have bC:=bW.trans ai;obtain⟨b2,cu,b6,b7,aN,dn⟩:=fN a1.out;have b{G}(h:G:=by
  have B:=bL.ie bv Pm;have E:=ZB a1.out (O3 A);have da:Hid (bF.heap[H]? = some (PZ #[O3 0,O3 0,Pv false,Ry] 73)):=tO
  have b{G}(h:G:=by
  have cw:=b9.gq q (-1) cr;have cC:=cw;have cf:=uI B cw aW O9 O9 A;rw[<-aS.out] at cf;obtain⟨dd,cW,s2,dm,_,dA⟩:=fN E;have dI:=B.lt;clear bq E b2 cu b6 b7 cz;go_wp2_with fail;refine cm cf ?_;rintro m dG ⟨rfl,cp,U⟩;have bZ:=cp;have cn:=Y (U.rest W _ 73 cQ.out Pm);have c8:=Y (U.rest H _ 73 da.out Pm);have di:=aW.kp (Ql.kp U);have cB:=ck.trans (SL.jR U);have dw:=cC.lets (Qd d.2) A;have c9:=Ur d.2;have cl:=Kr cp dw di O9 O9 cZ.out ⟨A,f,g⟩ l
  rw[<-aS.out] at cl;obtain⟨dr,dh,ds,dt,_,dC⟩:=fN cn.out;clear c9 dd cW s2 dm;go_wp2_with fail;refine cm cl ?_;rintro m cH ⟨rfl,dB,dp,bQ⟩;have bI:=Y (bQ.fR bZ c8.out Pm);have dg:=cB.trans bQ;obtain⟨u0,u1,u2,u3,_,dD⟩:=fN (bQ.fR bZ cn.out Pm);obtain⟨cM,cL,cO,cV,r,dq⟩:=fN bI.out;have cP:=r 0;have cT:=r 1;have cU:=r 2;have de:=r 3;have cK:W≠H:=O4 bU;clear dr dh ds dt r;go_wp2_with fail
  obtain⟨cJ,ax⟩:=xE ((((cH.setCell (O7 H 0) (O3 A)).setCell (O7 H 1) (O3 f)).setCell (O7 H 2) (Pv g)).setCell (O7 H 3) (.pointer l));rw[<-ax];have aI:=lR bI.out (O3 A) (O3 f) (Pv g) (.pointer l);have bD:k<=H:=by have:=O4 aV;omega
  have aG:=UY bI.out bD (O3 A) (O3 f) (Pv g) (.pointer l);have aC:=dg.new aG (Ws aV.out _ _ _ _);have au:=dp.ie aG Pm;rw[<-ax] at aI aC au;obtain⟨bn,bm,bj,bo,_,_⟩:=fN aI;exact Xp (v:=Qy ⟨A,f,g⟩ l) ⟨rfl,_,_,au,aC⟩):=O6 h;exact CN):=O6 h;exact Aa):=O6 h;exact FQ):=O6 h;exact D8):=O6 h;exact pU):=O6 h;exact pE):=O6 h;exact zb
end
section
variable {M:Pe} {k I:Nat} {z:List Nat} {es bW bV bI bD:Px} {w w':Pe} {g:St} {aK:Nat}
def Sz.hi {aK:Nat}{g:St}(h:Sz aK g)(c:Int)(b:Py)(a:Int)(d:Va):Sz (aK+1) (g.hi c b a d):=h.heap (ge _) (h.go.f4 c b a d) (V7 _ _ _ _ _)
def Sz.Rj {aK:Nat}{g:St}(h:Sz aK g)(b:Int)(a:Py)(c:Va)(fx:Bool):Sz (aK+1) (g.Rj b a c fx):=h.heap (ge _) (h.go.put b a c fx) (wc _ _ _ _ _)
section
variable (a:Mx M k I z bW bV bI bD w g) (f:Sz aK g) (i:aK<1000000000)
include a f i
def X7 (d:Int)(c:Py)(b:Int)(e:Va) :
  Pq 128 #[O5 k,O3 d,Pj c,O3 b,vA e] w λl w'=>l=PK (U4 (g.M.f4 d c b e).1)/\Mx M k I z bW bV bI bD w' (g.hi d c b e)/\Ql Th k w w':=by
 refine(X4 a.hh f.go.sm (P6 i) d c b e).mono ?_;rintro l w' ⟨rfl,m,j⟩;exact⟨rfl,a.heap m j,j⟩
def ZQ (c:Int)(b:Py)(d:Va)(fx:Bool) :
  Pq 56 #[O5 k,O3 c,Pj b,vA d,Pv fx] w λj w'=>j=PK (U4 (g.M.put c b d fx).1)/\Mx M k I z bW bV bI bD w' (g.Rj c b d fx)/\Ql Th k w w':=by
 refine(aFv a.hh f.go.sm (P6 i) c b d fx).mono ?_;rintro j w' ⟨rfl,l,e⟩;exact⟨rfl,a.heap l e,e⟩
def wO (b:Int) :
  Pq 49 #[O5 k,O3 b] w λd w'=>d=PK (O3 g.M.objs.length)/\Mx M k I z bW bV bI bD w' { g with M:=g.M.Qj b }/\Ql Th k w w':=by
 refine(v7 a.hh f.go.sm (P6 i) b).mono ?_;rintro d w' ⟨rfl,e,c⟩;exact⟨rfl,a.heap e c,c⟩
end
def ar0 (cZ:Bs M k I z es)(bB:Mx M k I z bW bV bI bD w g)(bY:Sz aK g){u:Ad}{d:Nd}(aJ:PX z w u d)(ai:d.2.fJ.length=2)(dS:aK+10000<1000000000)(aQ:Pl)(o:Option Addr)(dl:(g.M.ro aQ.scope).isSome=true) :
  Pq 265 #[O5 k,O5 u.p,Qy aQ o] w λm w'=>m=PK (vA (VI d aQ g).1)/\∃ cn cp,Mx M k I z bW bV cn cp w' (VI d aQ g).2/\SL k bI bD cn cp w w':=by
 have da:=bB.lt;obtain⟨l,q,r⟩:=aQ;obtain⟨w2,cq⟩:=xH ((w.alloc (.cells #[O3 l,O3 q,Pv r,.pointer o] 73)).alloc (.cells #[O3 0,O3 0,Qn] 65));have b{G}(h:G:=by
 have cC:w2.heap[H]? = some (PZ #[O3 0,O3 0,Qn] 65):=uK
 have b{G}(h:G:=by
 obtain⟨cV,_,cM,_⟩:=aJ.cells;obtain⟨dd,_,a6,_⟩:=(aJ.kp (Kp.of ap)).cells;have b{G}(h:G:=by
 have cw:=Y cC;have cB:=SL.of (o:=bI) (f:=bD) ap (P6 da);have a7:=Y bO;have bT:=Y cy;have bU:=Y bS;obtain⟨aj,T⟩:=xH u.p;obtain⟨aS,ac⟩:=xE d.2.tx;rw[<-T.out] at dd a6 cV cM ⊢;rw[<-ac] at a6 cM;have de:=Y a6;clear a6;have dc:=aF.lt;have dT:=fI F;clear cC cy bO bS
 by_cases aO:d.2.tx=O8
 ·obtain⟨v,p⟩:=xE ((f5 d ⟨l,q,r⟩ g).1);obtain⟨ci,C⟩:=xE ((f5 d ⟨l,q,r⟩ g).2);have ah:VI d ⟨l,q,r⟩ g=(v,ci):=by unfold VI;rw[fL aO,p,C]
  rw[ah];have a:=q5 aF bf ai bY O9 ⟨l,q,r⟩ o;rw[<-p,<-C,<-T.out] at a;have cY:aS.toList.isEmpty=true:=by rw[ac,aO];decide +kernel
  obtain⟨bZ,cg,b0,b1,_,_⟩:=fN F;clear ah p C aO ac F;go_enter func265,ntmps265;go_wp2_with fail;refine iz ?_;clear bu bh;refine cm a ?_;rintro m bG ⟨rfl,c,bL,aY⟩;have b3:=bL;have am:=Y (aY.fR aF cw.out Pm);have bC:=cB.trans aY;have b{G}(h:G:=by
  clear bZ cg b0 b1;go_wp2_with fail;obtain⟨c8,ax⟩:=xE (((bG.setCell (O7 H 0) (O3 v.k)).setCell (O7 H 1) (O3 v.n)).setCell (O7 H 2) (Pj v.s));rw[<-ax];have aI:=lq am.out (O3 v.k) (O3 v.n) (Pj v.s);have b4:k<=H:=by have:=O4 a7;omega
  have aD:=Tn am.out b4 (O3 v.k) (O3 v.n) (Pj v.s);have aC:=bC.new aD (UU a7.out _ _ _);have au:=b3.ie aD Pm;rw[<-ax] at aI aC au;obtain⟨bm,be,bj,_,_⟩:=fX aI;exact XW (v:=vA v) ⟨rfl,_,_,au,aC⟩):=O6 h;exact Ah
 ·obtain⟨A,b6⟩:=xE (g.gg:Int);obtain⟨cf,b9⟩:=xE (own d:Int);obtain⟨cP,bR⟩:=xH (g.gq l (-1) cf);obtain⟨v,p⟩:=xE ((f5 d ⟨A,q,r⟩ cP).1);obtain⟨ci,C⟩:=xE ((f5 d ⟨A,q,r⟩ cP).2);have ah:VI d ⟨l,q,r⟩ g=(v,ci.hi A aS 3 v):=by unfold VI;rw[fK aO,p,C,bR.out,b6,b9,ac]
  rw[ah];have cY:aS.toList.isEmpty=false:=by rw[Bc,ac];exact gN aO
  have br:=Y (fN F);have bM:=Y (λL (i:Pn w2 L)=>ZA cZ (aF.fH i) (bf.kp (Kp.of i)));rw[<-T.out,<-b9] at bM;have bE:=Y (λL (i:Pn w2 L)=>pi (aF.fH i) bY O9 l (-1) cf dl);rw[<-b6,<-bR.out] at bE;have cD:=Y C;have c9:=Y p;clear ah b9 b6 aO ac C p F;go_enter func265,ntmps265;go_wp2_with fail;refine iz ?_;clear bu bh;have b{G}(h:G:=by
  have bo:=(SL.of a (P6 dc)).trans aY;have b3:=bL;have a1:=Y (bo.fR aF bx.out Pm);have am:=Y (bo.fR aF cw.out Pm);have cR:=bf.kp (bo.kp aF);have bC:=cB.trans bo;obtain⟨bZ,cg,b0,b1,aN,dU⟩:=fN a1.out;have b{G}(h:G:=by
  have B:=b3.ie bv Pm;have E:=ZB a1.out (O3 A);have dk:Hid (bF.heap[H]? = some (PZ #[O3 0,O3 0,Qn] 65)):=tO
  have b{G}(h:G:=by
  have ch:=bY.gq l (-1) cf;rw[<-bR.out] at ch;have cO:=ch.f5 d ⟨A,q,r⟩;rw[<-cD.out] at cO;have cA:=q5 B aW ai ch O9 ⟨A,q,r⟩ o;rw[<-c9.out,<-cD.out,<-T.out] at cA;obtain⟨dn,di,s2,ds,_,dP⟩:=fN E;have dR:=B.lt;clear bq E bZ cg b0 b1 cz;go_wp2_with fail;refine cm cA ?_;rintro m aZ ⟨rfl,dN,cK,bc⟩;have cG:=Y (bc.fR B cQ.out Pm);have dj:=Y (bc.fR B dk.out Pm);have cL:=aW.kp (bc.kp B);have cT:=ck.trans bc;clear dn di s2 ds;go_wp2_with fail
  obtain⟨aG,bn⟩:=xE (aZ.alloc (.cells #[O3 v.k,O3 v.n,Pj v.s] 65));rw[<-bn];have s:Pn aZ aG:=by rw[bn];exact QJ
  have aV:aG.heap[aZ.heap.size]? = some (PZ #[O3 v.k,O3 v.n,Pj v.s] 65):=by rw[bn];exact Ph _ _
  obtain⟨dD,cr⟩:=xE aZ.heap.size;rw[<-cr] at aV ⊢;have cJ:=cK.fH s;have dz:=cJ.lt;have dq:=Y (fQ s cG.out);have cU:=Y (fN (fQ s cG.out));have dm:=Y (fQ s dj.out);have dp:=cT.trans (SL.of s (P6 cK.lt));have dA:=Y aV;have dh:=Y (fX aV);have dM:aj<aG.heap.size:=by rw[T.out];exact(cL.kp (Kp.of s)).cells.1
  have cl:aG.cell? (O7 aj 1)=some (Pj aS):=by
   have ad:=(cL.kp (Kp.of s)).cells.2.2.1;have ak:=bf.cells.2.2.1;rw[<-T.out] at ad ak;have cu:=O4 de;rw[ak] at cu;cases cu;exact ad
  have dB:=Y cl;have dO:=fI dq.out;have dQ:=fI aV;have dC:=Y (λL (i:Pn aG L)=>X7 (cJ.fH i) cO O9 A aS 3 v);clear aV cr bn cl;refine UC 10 λa=>?_;refine iy ?_;refine up 3 W 0 a ?_;refine uk 4 (cU.out.1) a ?_;refine uB ?_;refine uk 8 dB.out a ?_;refine jN 9 dh.out a ?_;refine Rl 10 λK c=>?_;go_simp;refine cm (O4 dC _ a) ?_;rintro m dg ⟨rfl,dx,dr⟩;refine ko c ?_;clear c K;have bQ:=(Ql.of (T:=Th) a (P6 dz)).trans dr;have dy:=Y dx
  have b7:=Y (bQ.rest H _ 65 dm.out Pm);have dt:=Y (dp.trans (SL.jR bQ));obtain⟨b2,f,t,_,dV⟩:=fX (bQ.rest dD _ 65 dA.out Pm);refine TQ ?_ _;obtain⟨dG,dF,dH,D,dL⟩:=fX b7.out;have dI:=D 0;have dJ:=D 1;have dK:=D 2;clear D;go_simp;go_wp2_with fail;obtain⟨c8,ax⟩:=xE (((dg.setCell (O7 H 0) (O3 v.k)).setCell (O7 H 1) (O3 v.n)).setCell (O7 H 2) (Pj v.s));rw[<-ax];have aI:=lq b7.out (O3 v.k) (O3 v.n) (Pj v.s);have b4:k<=H:=by have:=O4 a7;omega
  have aD:=Tn b7.out b4 (O3 v.k) (O3 v.n) (Pj v.s);have aC:=dt.out.new aD (UU a7.out _ _ _);have au:=dy.out.ie aD Pm;rw[<-ax] at aI aC au;obtain⟨bm,be,bj,_,_⟩:=fX aI;exact XW (v:=vA v) ⟨rfl,_,_,au,aC⟩):=O6 h;exact CN):=O6 h;exact Aa):=O6 h;exact FQ):=O6 h;exact pU):=O6 h;exact pE):=O6 h;exact jq
def Ms (M:Pe)(k I:Nat)(z:List Nat)(w:Pe)(g:St):Prop:=∃ bW bV bI bD,Mx M k I z bW bV bI bD w g
abbrev ZK (a:Va):Obj:=PZ #[O3 a.k,O3 a.n,Pj a.s] 65
variable {w2:Pe}{au:Option Nat}
def Ms.lt (h:Ms M k I z w g):k<w.heap.size:=by obtain⟨_,_,_,_,h⟩:=h;exact h.lt
def Ms.fH (h:Ms M k I z w g)(a:Pn w w'):Ms M k I z w' g:=by obtain⟨_,_,_,_,h⟩:=h;exact⟨_,_,_,_,h.fH a⟩
def Ms.ie {b:List TypeId}(h:Ms M k I z w g)(d:Ql b k w w')(c:∀ a ∈ b,a ∉ Tm/\a≠40/\a≠22):Ms M k I z w' g:=by obtain⟨_,_,_,_,h⟩:=h;exact⟨_,_,_,_,h.ie d c⟩
def Ms.below (h:Ms M k I z w g):Below k M w:=by obtain⟨_,_,_,_,h⟩:=h;exact h.bw
def P8.hX {d:List TypeId}(h:P8 au k w w')(l:Ql d k w' w2)(c:∀ a,a<w.heap.size->w2.heap[a]? = w'.heap[a]?):P8 au k w w2:=
 ⟨h.below.trans l.below,λa f i b e j=>by rw[c a (fI b)];exact h.rest a f i b e j⟩
def P8.fR (h:P8 none k w w'){b:Nat}{c:Array Px}{a:TypeId}(d:w.heap[b]? = some (PZ c a))(e:a ∉ Tm):w'.heap[b]? = some (PZ c a):=h.rest b c a d e P7
def P8.Vo (h:P8 none k w w'):Kp w w':=h.kp (λb a=>by cases a)
def X8.Rf {d:Px}{a:Er}{b:List TypeId}(h:X8 es w d a)(f:Ql b k w w')(i:126 ∉ b):X8 es w' d a:=by
 cases a with
 | no=>exact h
 | stop=>exact h
 | ir=>exact h
 | Yq x=>
  obtain⟨c,j,e⟩:=h;exact⟨c,j,f.rest c _ _ e i⟩
def ig (b:Px):Prop:=∃ a x,b=.iface a x
def X8.XO {b:Px}{a:Er}(h:X8 es w b a)(d:a≠.no)(c:ig es):ig b:=by
 cases a with
 | no=>exact absurd rfl d
 | stop=>rw[show b=es from h];exact c
 | ir=>exact⟨_,_,h⟩
 | Yq x=>obtain⟨f,e,_⟩:=h;exact⟨_,_,e⟩
structure VB (w0:Pe)(mb af:Nat)(ab:List Nat)(es:Px)(w2:Pe)(v:Va)(e:Er)(σ:St)(wz:Pe)(vb:Nat)(ev:Px):Prop where
 v:wz.heap[vb]? = some (ZK v)
 vb:w2.heap.size<=vb
 er:X8 es wz ev e
 ms:Ms w0 mb af ab wz σ
 fr:P8 none mb w2 wz
def VB.late {a:Pe}{ev:Px}{v:Va}{e:Er}(f:X8 es a ev e)(c:Ms M k I z a g)(d:P8 none k w2 a):VB M k I z es w2 v e g (a.alloc (.cells #[O3 v.k,O3 v.n,Pj v.s] 65)) a.heap.size ev:=by
 have b:Pn a (a.alloc (.cells #[O3 v.k,O3 v.n,Pj v.s] 65)):=QJ;exact⟨Ph _ _,d.below.size,f.fH b,c.fH b,d.trans (P8.of b (P6 c.lt))⟩
def VB.early {b:Pe}{ev x y n:Px}{v:Va}{e:Er}{a:Nat}(f:b.heap[a]? = some (PZ #[x,y,n] 65))(c:w2.heap.size<=a)(i:k<=w2.heap.size)(l:X8 es b ev e)(j:Ms M k I z b g)(m:P8 none k w2 b) :
  VB M k I z es w2 v e g (((b.setCell (O7 a 0) (O3 v.k)).setCell (O7 a 1) (O3 v.n)).setCell (O7 a 2) (Pj v.s)) a ev:=by
 have d:=Tn f (f9 i c) (O3 v.k) (O3 v.n) (Pj v.s);exact⟨lq f _ _ _,c,l.Rf d Pm,j.ie d Pm,m.hX d (UU c _ _ _)⟩
def WJ {H G:Pe->Nat->Px->Prop}{goal:Prop}(d:(∀ w b a,H w b a->G w b a)->goal)(c:∀ w b a,H w b a->G w b a):goal:=d c
def P5 (M:Pe)(k I:Nat)(z:List Nat)(es:Px)(w:Pe)(a:(Va × Er) × St)(c:Ending)(w':Pe):Prop:=
 (∃ b,c=PK (.tuple #[vA a.1.1,b])/\X8 es w' b a.1.2)/\Ms M k I z w' a.2/\P8 none k w w'
section
variable (h:Mx M k I z bW bV bI bD w g)
include h
def Mx.aFz (x:Int × Int){c:Pe}{a:Px}(C:w.grownBy c bV.ownBlock)(q:c.ownsRow k 54 2 a (g.seen.length+1) (g.seen.flatMap l5++l5 x)) :
  Mx M k I z bW a bI bD (c.setCell (O7 k 6) a) { g with seen:=g.seen++[x] }/\P8 none k w (c.setCell (O7 k 6) a):=by
 have n:Ql [54] k w c:=Ql.grown C (P6 h.lt) λE m=>by
  obtain⟨d,l⟩:=QM h.se m;exact⟨(h.se.lt E m).1,d,54,l,by simp⟩
 have F:=h.hh.fR n Pm Pm Pm Pm Pm;obtain⟨H,o⟩:=F.cell 4 a;have b:Ql [54,84] k w (c.setCell (O7 k 6) a):=(n.mono Pm Qp).trans (o.mono Pm Qp);obtain⟨u,B,p,r⟩:=h.fu
 refine⟨⟨h.bw.trans b.below,H,PV h.lg b Pm,?_,PV h.ow b Pm,u,B,PV p b Pm,λD l v s A=>(r D l v s A).kp (λi d j e f=>b.rest i d j e (by rcases f with rfl|rfl <;> decide))⟩,⟨b.below,λi d j e f _=>b.rest i d j e (λl=>f (by rcases gP.1 l with rfl|l;decide;rw[gc.1 l];decide))⟩⟩
 have t:=PV q o Pm
 show World.ownsRow _ _ _ _ _ (g.seen++[x]).length ((g.seen++[x]).flatMap l5)
 rw[gj,jl];simpa using t
def Mx.OY (x:Py){c:Pe}{a:Px}(C:w.grownBy c bW.ownBlock)(q:c.ownsRow k 9 1 a (g.hq.length+1) (g.hq.map Value.string++[Pj x])) :
  Mx M k I z a bV bI bD (c.setCell (O7 k 2) a) { g with hq:=g.hq++[x] }/\P8 none k w (c.setCell (O7 k 2) a):=by
 have n:Ql [9] k w c:=Ql.grown C (P6 h.lt) λE m=>by
  obtain⟨d,l⟩:=QM h.lg m;exact⟨(h.lg.lt E m).1,d,9,l,by simp⟩
 have F:=h.hh.fR n Pm Pm Pm Pm Pm;obtain⟨H,o⟩:=F.cell 0 a;have b:Ql [9,84] k w (c.setCell (O7 k 2) a):=(n.mono Pm Qp).trans (o.mono Pm Qp);obtain⟨u,B,p,r⟩:=h.fu
 refine⟨⟨h.bw.trans b.below,H,?_,PV h.se b Pm,PV h.ow b Pm,u,B,PV p b Pm,λD l v s A=>(r D l v s A).kp (λi d j e f=>b.rest i d j e (by rcases f with rfl|rfl <;> decide))⟩,⟨b.below,λi d j e f _=>b.rest i d j e (λl=>f (by rcases gP.1 l with rfl|l;decide;rw[gc.1 l];decide))⟩⟩
 have t:=PV q o Pm
 show World.ownsRow _ _ _ _ _ (g.hq++[x]).length ((g.hq++[x]).map _)
 rw[gj,gM];exact t
end
def aAp:(prog.info? 54).map (λa=>(a.zero,a.size,a.bytes))=some (some (.agg #[O3 0,O3 0]),2,16):=by kernel_rfl
def ar1 (w:Pe)(H:Nat)(e:w.heap.size=H)(b c:Int)(a:Nat)(d:Px)(h:([O3 b,O3 c]:List Px)[a]? = some d) :
  (w.alloc (.cells #[O3 b,O3 c] 54)).cell? (((O7 H 0):Addr).add a)=some d:=by
 subst e
 rcases a with _|_|a <;> simp at h
 all_goals subst h;simp[Addr.add]
def NJ (c d:Int):∀ b ∈ ([O3 c,O3 d]:List Px),b.oneCell'=true:=by
 intro b a;simp at a
 rcases a with rfl|rfl <;> rfl
def Lb (a:Mo)(d:Py):∀ (c:Nat) (e:Int),a.nD d c e = -1\/∃ b:Nat,a.nD d c e=b/\b<a.Pz.length
 | 0,_=>.inl rfl
 | c+1,e=>by
  rw[Mo.nD]
  rcases QF a e with ⟨i,_⟩|⟨b,x,rfl,f,j⟩
  ·rw[i];exact .inl rfl
  ·rw[j]
   show (if a.has b d=true then (b:Int) else a.nD d c x.outer) = -1\/_
   split
   ·right;refine⟨b,?_,(gr.1 f).1⟩;simp[*]
   ·rename_i l
    simp only[];exact Lb a d c x.outer
def awv (a:Mo)(b:Int)(d:Py):a.find b d = -1\/∃ c:Nat,a.find b d=c/\c<a.Pz.length:=Lb _ _ _ _
variable {H:Nat}{x y e0 cr:Px}{br:TypeId}
def Qb (h:w.heap[H]? = some (PZ #[x,y,e0] br)):w.cell? (O7 H 0)=some x/\w.cell? (O7 H 1)=some y/\w.cell? (O7 H 2)=some e0/\w.frozen? (O7 H 0)=false/\w.frozen? (O7 H 1)=false/\w.frozen? (O7 H 2)=false/\H<w.heap.size:=by
 obtain⟨c,d,b,a,e⟩:=fX h;exact⟨c,d,b,a 0,a 1,a 2,e⟩
def RN (h:w.heap[H]? = some (PZ #[x,y,e0,cr] br)):w.cell? (O7 H 0)=some x/\w.cell? (O7 H 1)=some y/\w.cell? (O7 H 2)=some e0/\w.cell? (O7 H 3)=some cr/\w.frozen? (O7 H 0)=false/\w.frozen? (O7 H 1)=false/\w.frozen? (O7 H 2)=false/\w.frozen? (O7 H 3)=false/\H<w.heap.size:=by
 obtain⟨d,e,b,c,a,f⟩:=fN h;exact⟨d,e,b,c,a 0,a 1,a 2,a 3,f⟩
def iT (X:w'.heap[H]? = some (PZ #[x,y,e0] br))(dw:w.heap.size<=H)(db:k<w.heap.size)(ax:P8 au k w w')(ah:Ms M k I z w' g)(L ee Z:Px)(cQ:∀ m ∈ [br],m ∉ Tm/\m≠40/\m≠22:=by decide) :
  ∃ bn,bn=((w'.setCell (O7 H 0) L).setCell (O7 H 1) ee).setCell (O7 H 2) Z/\Ql [br] k w' bn/\P8 au k w bn/\Ms M k I z bn g/\bn.cell? (O7 H 0)=some L/\bn.cell? (O7 H 1)=some ee/\bn.cell? (O7 H 2)=some Z:=by
 have b8:=Tn X (show k<=H by omega) L ee Z;obtain⟨bm,be,bj,_,_⟩:=fX (lq X L ee Z);exact⟨_,rfl,b8,ax.hX b8 (UU dw _ _ _),ah.ie b8 cQ,bm,be,bj⟩
def kH (X:w'.heap[H]? = some (PZ #[x,y,e0,cr] br))(dw:w.heap.size<=H)(db:k<w.heap.size)(ax:P8 au k w w')(ah:Ms M k I z w' g)(L dK Z dL:Px)(eV:∀ m ∈ [br],m ∉ Tm/\m≠40/\m≠22:=by decide) :
  ∃ a6,a6=(((w'.setCell (O7 H 0) L).setCell (O7 H 1) dK).setCell (O7 H 2) Z).setCell (O7 H 3) dL/\Ql [br] k w' a6/\P8 au k w a6/\Ms M k I z a6 g/\a6.cell? (O7 H 0)=some L/\a6.cell? (O7 H 1)=some dK/\a6.cell? (O7 H 2)=some Z/\a6.cell? (O7 H 3)=some dL:=by
 have b8:=UY X (show k<=H by omega) L dK Z dL;obtain⟨bn,bm,bj,bo,_,_⟩:=fN (lR X L dK Z dL);exact⟨_,rfl,b8,ax.hX b8 (Ws dw _ _ _ _),ah.ie b8 eV,bn,bm,bj,bo⟩
section
variable (bm:Bs M k I z es) (D:Mx M k I z bW bV bI bD w g) (C:Sz aK g) (aQ:aK<1000000000) {u:Ad} {d:Nd} (bn:PX z w u d) (A:Pl) (o:Option Addr)
include bm D C aQ u d bn A o
def yN (T:d.1=none) :
  Pq 291 #[O5 k,O5 u.p,Qy A o] w λm w'=>m=PK (O3 (g.M.find A.scope d.2.tx))/\Ms M k I z w' g/\P8 none k w w':=by
 have aG:=D.lt;have b{G}(h:G:=by
 have b{G}(h:G:=by
 obtain⟨ac,t⟩:=xE (g.M.find l R);have E:g.M.find (Pl.mk l q r).scope d.2.tx=ac:=by rw[<-s,t]
 rw[E];rw[<-t] at a1;clear E t;have ah:=Y T;clear F s T;have b{G}(h:G:=by
 refine uz 10 (O3 ac) ?_;refine TQ ?_ _;have ad:(Instr.lookup 80 (.map (some I)) (O5 aj) true).run prog p=.ok (.tuple #[(O3 0),Pv false]) p:=by
  rw[B];unfold uW;rw[ah.out];rfl
 clear B;go_simp;go_wp2;go_ret;exact⟨rfl,⟨_,_,_,_,f⟩,aF⟩):=O6 h;exact xI):=O6 h;exact xB):=O6 h;exact m9
def ar5 {j:Nat}(E:d.1=some j)(ay:g.M.find A.scope d.2.tx = -1) :
  Pq 291 #[O5 k,O5 u.p,Qy A o] w λm w'=>m=PK (O3 (g.M.find A.scope d.2.tx))/\Ms M k I z w' g/\P8 none k w w':=by
 have aG:=D.lt;have b{G}(h:G:=by
 have b{G}(h:G:=by
 have t:g.M.find l R = -1:=by rw[s];exact ay
 rw[ay];rw[t] at a1;clear t ay;have bh:=Y E;clear F s E;have b{G}(h:G:=by
 refine uz 10 (O3 (-1)) ?_;have b{G}(h:G:=by
 go_ret;exact⟨rfl,⟨_,_,_,_,f⟩,aF⟩):=O6 h;exact FL):=O6 h;exact xI):=O6 h;exact xB):=O6 h;exact m9
def ar6 {j n:Nat}(a7:d.1=some j)(ay:g.M.find A.scope d.2.tx=n)(bN:n<g.M.Pz.length) :
  Pq 291 #[O5 k,O5 u.p,Qy A o] w λm w'=>m=PK (O3 (g.M.find A.scope d.2.tx))/\Ms M k I z w' { g with seen:=g.seen++[((j:Int),g.Rx.getD n 0)] }/\P8 none k w w':=by
 have aG:=D.lt;have b{G}(h:G:=by
 have b{G}(h:G:=by
 have a6:g.M.find l R=n:=by rw[s];exact ay
 rw[ay];rw[a6] at a1;clear a6 ay;obtain⟨x,aS⟩:=xH (g.Rx.getD n 0);rw[<-aS.out];have bh:=Y a7;have bF:=Y bN;clear F s a7 bN;have b{G}(h:G:=by
 refine uz 10 (O3 (n:Int)) ?_;have b{G}(h:G:=by
 obtain⟨bK,bC,bE,bx,bB⟩:=gY aAp;have be:n<g.Rx.length:=by rw[C.oe];exact O4 bF
 have t:=f.se;have T:=f.ow;obtain⟨ch,cg,bc⟩:=PW t;obtain⟨aW,ck,ax,_,_⟩:=T.form O9;have am:p.cell? (O7 aW n)=some (O3 (g.Rx.getD n 0)):=by
  rw[ax] at T;rw[T.cellAt n O9];simp[i6,ga be]
 obtain⟨aZ,_⟩:=f.hh.at_ 4 _ rfl;obtain⟨bf,_⟩:=f.hh.at_ 6 _ rfl;obtain⟨bz,E⟩:=xH g.seen.length;obtain⟨bR,db⟩:=xE g.Rx.length;have b9:bz<=1000000000:=by rw[E.out];exact P6 (mH C.se aQ)
 rw[<-db] at ax be;rw[<-E.out] at bc;rw[<-aS.out] at am;subst bc ax;have cf:(n:Int)<(bR:Int):=O9;have bq:=Y aZ;have bu:=Y bf;have bS:=Y am;clear aZ bf am db b1 bY;refine UC 16 λa=>?_;refine iy ?_;refine up 3 k 2 a ?_;refine up 4 k 6 a ?_;refine uk 5 bq.out a ?_;refine uh 6 (O3 (j:Int)) (a) ?_;refine up 7 k 0 a ?_;refine up 8 k 0 a ?_;refine up 9 k 8 a ?_;refine uk 10 bu.out a ?_;refine uh 11 (O3 (n:Int)) (a) ?_;refine up 12 aW n a ?_;refine uk 13 bS.out a ?_
 refine uh 14 (.agg #[O3 (j:Int),O3 x]) (a) ?_;refine Rl 15 λK c=>?_;go_simp;refine c.out _ _ (λ_=>(RP.drew.alloc P7 _)) ?_;clear c K;refine Rl 16 λK c=>?_;have ah:=f.fH (w':=p.drew.alloc (.cells #[O3 (j:Int),O3 x] 54)) (RP.drew.alloc P7 _);have t:=ah.se;rw[<-E.out] at t
 refine step_append_lies _ rfl _ _ 27 rfl k 54 bK _ 2 16 underlying27 bC bE bx bB rfl Pm _ _ _ rfl t (O7 p.heap.size 0) 1 1 [O3 (j:Int),O3 x] rfl rfl (ar1 p.drew _ rfl j x) (NJ j x) Pm (by unfold maxLen;omega) O9 RQ (p.heap.size+1) P7 ?_
 intro bO bL aY hown4 ac bT bU;refine ko c ?_;clear c K;obtain⟨bQ,bG⟩:=ah.aFz ((j:Int),x) (a:=.slice (some (O7 bO 0)) (bz+1) bL) ac (by rw[<-E.out];exact hown4)
 obtain⟨b6,b7⟩:=(ah.hh.fR (a:=[54]) (j:=k) (w':=aY) (Ql.grown ac RQ λj ai=>by
  obtain⟨e,bv⟩:=QM t ai;exact⟨(t.lt j ai).1,e,54,bv,by simp⟩) Pm Pm Pm Pm Pm).at_ 4 _ rfl
 have bo:=aF.trans ((P8.of (L:=none) ((f2 _ p).drew.alloc P7 _) (P6 b0)).trans bG);have ci:k<aY.heap.size:=by have:=ac.size;simp at this;omega
 clear bT bU;refine uz 17 (PL k 0) ?_;refine uz 18 (PL k 2) ?_;refine uz 19 (PL k 6) ?_;refine uaZ 20 ?_;refine TQ ?_ _;go_simp;go_wp2;go_ret;exact⟨rfl,⟨_,_,_,_,bQ⟩,bo⟩):=O6 h;exact FL):=O6 h;exact xI):=O6 h;exact xB):=O6 h;exact m9
end
def Ih (j:Bs M k I z es)(p:Ms M k I z w g)(i:Sz aK g)(m:aK<1000000000){o:Ad}{b:Nd}(n:PX z w o b)(a:Pl)(f:Option Addr) :
  Pq 291 #[O5 k,O5 o.p,Qy a f] w λr w'=>r=PK (O3 (look b a g).1)/\Ms M k I z w' (look b a g).2/\P8 none k w w':=by
 obtain⟨bW,bV,bI,bD,l⟩:=p
 cases c:b.1 with
 | none=>
  have e:look b a g=(g.M.find a.scope b.2.tx,g):=by unfold look;rw[c]
  rw[e];exact yN j l i m n a f c
 | some t=>
  rcases awv g.M a.scope b.2.tx with d|⟨s,d,q⟩
  ·have e:look b a g=(g.M.find a.scope b.2.tx,g):=by unfold look;rw[c,d];rfl
   rw[e];exact ar5 j l i m n a f c d
  ·have e:look b a g=(g.M.find a.scope b.2.tx,{ g with seen:=g.seen++[((t:Int),g.Rx.getD s 0)] }):=by
    unfold look;rw[c,d];simp
   rw[e];exact ar6 j l i m n a f c d q
def qk (b:Nd)(c:Pl)(g:St):(Va × Er) × St:=
 let a:=look b c g
 let x:=a.2.M.read a.1 b.2.tx
 if x.2=0 then ((x.1,.no),a.2) else ((vU,f0 RZ),a.2)
def Sz.look {aK:Nat}{g:St}(h:Sz aK g)(a:Nd)(p:Pl):Sz (aK+1) (look a p g).2:=by
 unfold Hp.look;simp only
 split
 ·split
  ·exact⟨h.go.up (ge _),gF h.ow,gF h.fn,gF h.lg,by have:=h.se;simp;omega,h.oe⟩
  ·exact h.up (ge _)
 ·exact h.up (ge _)
def Vz (_:k<w.heap.size)(a:Py):Pq 269 #[Pj a] w λb w'=>(∃ c,b=PK c/\X8 es w' c (f0 a))/\Pn w w':=by
 refine(X5 a w).mono ?_;rintro b w' ⟨⟨e,rfl,_,c⟩,d⟩;exact⟨⟨_,rfl,e,rfl,c⟩,d⟩
def Kp.YJ (h:Kp w w'){a d:Nat}{e:Px}(i:w.cell? (O7 a d)=some e)(b:∃ c,w.heap[a]? = some (PZ c 40)):w'.cell? (O7 a d)=some e:=by
 obtain⟨c,b⟩:=b;have f:w'.heap[a]? = w.heap[a]?:=(h a c 40 b (fM rfl)).trans b.symm;exact(gs (w:=w) (a:=(O7 a d)) f).trans i
def R1 (bM:Bs M k I z es)(ah:Ms M k I z w g)(bC:Sz aK g)(bT:aK+1<1000000000){u:Ad}{E:Nd}(aJ:PX z w u E)(d:Pl)(o:Option Addr) :
  Pq 256 #[O5 k,O5 u.p,Qy d o] w (P5 M k I z es w (qk E d g)):=by
 have b{G}(h:G:=by
 have aF:=aJ.kp (Kp.of ap);have aZ:=Y (λL (a:Pn w2 L)=>Ih bM ((ah.fH ap).fH a) bC O9 (aF.kp (Kp.of a)) ⟨l,q,r⟩ o);obtain⟨aN,bv⟩:=xE ((look E ⟨l,q,r⟩ g).1);obtain⟨C,a1⟩:=xE ((look E ⟨l,q,r⟩ g).2);obtain⟨B,bc⟩:=xE E.2.tx;obtain⟨f,bx⟩:=xE ((C.M.read aN B).1);obtain⟨p,bf⟩:=xE ((C.M.read aN B).2);have bG:=bC.look E ⟨l,q,r⟩;rw[<-bv,<-a1] at aZ;rw[<-a1] at bG;have bF:qk E ⟨l,q,r⟩ g=if p=0 then ((f,.no),C) else ((vU,f0 RZ),C):=by
  unfold qk;simp only;rw[<-bv,<-a1,<-bc,<-bx,<-bf]
 rw[bF];obtain⟨b6,a6⟩:=xH (if p=0 then ((f,Er.no),C) else ((vU,f0 RZ),C));rw[<-a6.out];have bq:Hid (∀ L,Ms M k I z L C->Pq 290 #[O5 k,O3 aN,Pj B] L λm w'=>m=PK (.tuple #[vA f,U4 p])/\Pn L w'):=λL a=>by
  obtain⟨_,_,_,_,c⟩:=a;have h:=aAg c.hh bG.go.sm (P6 bT) aN B;rw[<-bx,<-bf] at h;exact h
 have bR:=ah.fH ap;have ai:Hid (w2.heap[cB]? = some (pM ⟨l,q,r⟩ o)/\w2.cell? (O7 u.p 1)=some (Pj B)):=⟨F,by rw[bc];exact aF.cells.2.2.1⟩
 have bL:=Y aF.gw;have bO:=P8.of (L:=none) ap (P6 aS);have bQ:=Y aW;have a7:=Y aY;obtain⟨U,bE⟩:=xE u.p;have bS:=aF.cells.1;rw[<-bE] at ai aZ bL bS ⊢;have aG:=bR.lt;have b2:=fI F;clear F aW bE bc bF bv a1 bx bf aY bo bB;go_enter func256,ntmps256;go_wp2_with fail;refine iz ?_;clear bu bh;refine WJ (H:=λwz D s=>VB M k I z es w2 f .no C wz D QW/\s=U4 p) (G:=?GG) (λbZ=>?ways) ?rest
 case ways=>
  have t:(λL=>L.heap[cB]? = some (pM ⟨l,q,r⟩ o)/\L.cell? (O7 U 1)=some (Pj B)) w2.drew:=O4 ai;have aD:Pn w2 w2.drew:=RP.drew;refine Qq 11 (λL=>L.heap[cB]? = some (pM ⟨l,q,r⟩ o)/\L.cell? (O7 U 1)=some (Pj B)) Qs ?_;refine up 0 k 0 t ?_;refine up 1 k 0 t ?_;refine up 2 k 0 t ?_;refine up 3 k 0 t ?_;refine up 4 U 0 t ?_
  refine uc 5 (.agg #[O3 l,O3 q,Pv r,.pointer o]) rfl (fM ⟨by kernel_rfl,λL a=>by have aO:=(fN a.1).1;have ad:=(fN a.1).2.1;have ak:=(fN a.1).2.2.1;have aj:=(fN a.1).2.2.2.1;go_simp⟩) (t) ?_
  refine up 7 U 0 t ?_;refine up 8 U 0 t ?_;refine up 9 U 1 t ?_;refine uc 10 (Pj B) rfl (fM ⟨by kernel_rfl,λL a=>by have aO:=a.2;go_simp⟩) (t) ?_
  refine jS 6 15 (λK c=>?_) λK c=>?_
  ·go_simp;refine cm (O4 aZ _ (aD)) ?_;rintro m T ⟨rfl,i,ax⟩;have W:=(P8.of (aD) (P6 aG)).trans ax;have b{G}(h:G:=by
   refine jS 11 15 (λK c=>?_) λK c=>?_
   ·go_simp;refine cm (O4 bq _ (i)) ?_;rintro m aI ⟨rfl,A⟩;refine ko c ?_;clear c K;refine zU ?_;refine uaZ 15 ?_;refine uaZ 16 ?_;refine uz 17 (U4 p) ?_;refine TQ ?_ _;go_simp;have ac:=VB.late (v:=f) (es:=es) (e:=.no) (ev:=QW) rfl (i.fH A) (W.trans (P8.of A (P6 i.lt)))
    generalize aI.alloc (.cells #[O3 f.k,O3 f.n,Pj f.s] 65)=wz at ac ⊢
    generalize aI.heap.size=D at ac ⊢
    exact xQ
   ·go_simp;have aj:=(f2 _ T).alloc Qp (.cells #[O3 0,O3 0,Qn] 65);refine c.out _ _ (λ_=>⟨fQ aj aC.1,PN aj aC.2⟩) ?_;clear c K;refine Rl 11 λK c=>?_;go_simp;refine cm (O4 bq _ (i.fH aj)) ?_;rintro m aI ⟨rfl,A⟩;refine ko c ?_;clear c K;have am:aI.heap[T.heap.size]? = some (PZ #[O3 0,O3 0,Qn] 65):=(A.block _ P7).trans (Ph T _);obtain⟨bn,aV,bU,be,bj,bm,bY⟩:=Qb am;refine zU ?_;refine uaZ 16 ?_;refine uz 17 (U4 p) ?_;refine TQ ?_ _;go_simp
    have ac:=VB.early (v:=f) (es:=es) (e:=.no) (ev:=QW) am W.below.size (P6 aG) rfl ((i.fH aj).fH A) (W.trans ((P8.of aj (P6 i.lt)).trans (P8.of A (by simp;have:=i.lt;omega))))
    have b{G}(h:G:=by
    generalize T.heap.size=D at ac ⊢
    exact xQ):=O6 h;exact Ds):=O6 h;exact Lh
  ·go_simp;have aj:Pn w2 (w2.alloc (.cells #[O3 0,O3 0,Qn] 65)).drew:=QJ.drew;refine c.out _ _ (λ_=>⟨fQ aj ai.out.1,PN aj ai.out.2⟩) ?_;clear c K;refine Rl 6 λK c=>?_;go_simp;refine cm (O4 aZ _ (aj)) ?_;rintro m T ⟨rfl,i,ax⟩;have W:=(P8.of (aj) (P6 aG)).trans ax;have b{G}(h:G:=by
   have aQ:T.heap[w2.heap.size]? = some (PZ #[O3 0,O3 0,Qn] 65):=ax.fR (Ph _ _) Pm;refine Rl 11 λK c=>?_;go_simp;refine cm (O4 bq _ (i)) ?_;rintro m aI ⟨rfl,A⟩;refine ko c ?_;clear c K;have am:aI.heap[w2.heap.size]? = some (PZ #[O3 0,O3 0,Qn] 65):=fQ A aQ;obtain⟨bn,aV,bU,be,bj,bm,bY⟩:=Qb am;refine zU ?_;refine uaZ 16 ?_;refine uz 17 (U4 p) ?_;refine TQ ?_ _;go_simp
   have ac:=VB.early (v:=f) (es:=es) (e:=.no) (ev:=QW) am Qp (P6 aG) rfl (i.fH A) (W.trans (P8.of A (P6 i.lt)));have b{G}(h:G:=by
   generalize w2.heap.size=D at ac ⊢
   exact xQ):=O6 h;exact DE):=O6 h;exact Lh
 case rest=>
  rintro wz D s ⟨A,rfl⟩;have b{G}(h:G:=by
  obtain⟨O,t,N,bA,ay,aI,bi⟩:=Qb (A.v);have bK{G}(h:G:=by
  have e:P8 none k w wz:=bO.trans A.fr;clear cx
  by_cases aO:p=0
  ·subst aO;rw[Jg];go_wp2_with fail;obtain⟨bn,aV⟩:=xE (((wz.setCell (O7 H 0) (O3 f.k)).setCell (O7 H 1) (O3 f.n)).setCell (O7 H 2) (Pj f.s));rw[<-aV];have c:=lq b1.out (O3 f.k) (O3 f.n) (Pj f.s);have i:k<=H:=by have:=O4 a7;omega
   have aQ:=Tn b1.out i (O3 f.k) (O3 f.n) (Pj f.s);have aD:=e.hX aQ (UU a7.out _ _ _);have aC:=A.ms.ie aQ Pm;rw[<-aV] at c aD aC;obtain⟨bm,be,bj,_,_⟩:=fX c;refine XW (v:=.tuple #[vA f,QW]) ?_;rw[a6.out,fL trivial];exact⟨⟨_,rfl,rfl⟩,aC,aD⟩
  ·rw[w7 aO];have n:=Y aO;clear aO;go_wp2_with fail;refine cm (Vz (es:=es) cD RZ) ?_;rintro m T ⟨⟨s,rfl,i⟩,c⟩;have b9:=Y (fQ c b1.out);have dd:=A.ms.fH c;have dc:=e.trans (P8.of (L:=none) c (P6 cD));obtain⟨ac,aj,am,aL,a8,ba,W⟩:=Qb b9.out;clear b6 ch ci ck cl cn cp;have b{G}(h:G:=by
   rw[a6.out,fK n.out];exact⟨⟨_,rfl,i.Rf aQ Pm⟩,aC,aD⟩):=O6 h;exact vi):=O6 h;exact xP):=O6 h;exact vu):=O6 h;exact x0
def Ux (M:Pe)(k I:Nat)(z:List Nat)(es:Px)(g:St)(d:Nd)(e:Pl)(f:(Va × Er) × St):Prop:=
 ∀ (a:Pe) (b:Ad) (c:Option Addr),Ms M k I z a g->PX z a b d->Pq 196 #[O5 k,O5 b.p,Qy e c] a (P5 M k I z es a f)
def oU (b:Fx)(c:Nd)(e:Pl)(g:St):(Va × Er) × St:=match b.v (Pg c 0) e g with
 | ((d,.no),a)=>((QE (!d.iU),.no),a)
 | ((_,d),a)=>((vU,d),a)
def ZJ (b:Fx)(a:Nd)(c:Pl)(g:St):(Va × Er) × St:=match b.v (Pg a 0) c g with
 | ((d,.no),e)=>if d.iU=decide (a.2.kd=25) then ((d,.no),e) else b.v (Pg a 1) c e
 | d=>d
def pb (c:Fx)(b:Nd)(e:Pl)(g:St):(Va × Er) × St:=match UJ c (Pg b 0) e g with
 | ((d,.no),a)=>((((a.M.gv d b.2.tx).map Pr.v).getD vU,.no),a)
 | ((_,d),a)=>((vU,d),a)
def aFQ (M:Pe)(k I:Nat)(z:List Nat)(es:Px)(w:Pe)(a:(Int × Er) × St)(c:Ending)(w':Pe):Prop:=
 (∃ b,c=PK (.tuple #[O3 a.1.1,b])/\X8 es w' b a.1.2)/\Ms M k I z w' a.2/\P8 none k w w'
variable {U:Fx}
section
variable (ay:ig es) (ah:Ms M k I z w g) {u:Ad} {C:Nd} (aJ:PX z w u C)
include ay ah u C aJ
def Ml (A:Pl)(o:Option Addr)(aL:Ux M k I z es g C A (U.v C A g)) :
  Pq 200 #[O5 k,O5 u.p,Qy A o] w (aFQ M k I z es w (UJ U C A g)):=by
 have aS:=ah.lt;have b{G}(h:G:=by
 have ax:w.heap.size<=W:=O9;have b{G}(h:G:=by
 have b{G}(h:G:=by
 obtain⟨aW,m⟩:=xE u.p;have n:=aL w2 u o bf aZ;obtain⟨O,i⟩:=xH (UJ U C ⟨l,q,r⟩ g);rw[<-i.out,<-m];rw[<-m] at n
 rcases X:U.v C ⟨l,q,r⟩ g with ⟨⟨a,E⟩,S⟩
 rw[X] at n;have p:=Y X;obtain⟨aj,aQ,ak,am,_,_⟩:=fN F;clear F X m ax;go_enter func200,ntmps200;go_wp2_with fail;rw[<-aV.out,<-aD];clear aD;refine cm n ?_;rintro aF f ⟨⟨L,rfl,e⟩,j,aI⟩;have aC:=e;have D:=bE.trans aI;have N:=j.lt;clear aj aQ ak am
 by_cases B:E=.no
 ·subst B;have s:L=QW:=e;subst s
  by_cases T:a.k=5
  ·go_wp2_with fail;have c:O=((a.n,.no),S):=by rw[i.out];unfold UJ;rw[p.out];simp[T]
   refine Vm (v:=.tuple #[O3 a.n,QW]) ?_;rw[c];exact⟨⟨_,rfl,rfl⟩,j.fH QJ,D.trans (P8.of QJ (P6 N))⟩
  ·have c:O=((-1,f0 gB),S):=by rw[i.out];unfold UJ;rw[p.out];simp[T]
   have t:=Y c;clear c;go_wp2_with fail;have d:=(f2 f.heap.size f).alloc Qp (.cells #[O3 a.k,O3 a.n,Pj a.s] 65);have ai:=j.fH d;have aG:=D.trans (P8.of (L:=none) d (P6 N));have ad:=ai.lt;refine cm (Vz (es:=es) ad gB) ?_;rintro aF aU ⟨⟨L,rfl,e⟩,ac⟩;have aO:=ai.fH ac;have aN:=aG.trans (P8.of (L:=none) ac (P6 ad));go_wp2_with fail;refine Vm (v:=.tuple #[O3 (-1),L]) ?_;rw[t.out];exact⟨⟨_,rfl,e⟩,aO,aN⟩
 ·obtain⟨T,ac,s⟩:=e.XO B ay;subst s;have c:O=((-1,E),S):=by
   rw[i.out];unfold UJ;rw[p.out];exact jZ
  have t:=Y c;clear B c;go_wp2_with fail;have d:=(f2 f.heap.size f).alloc Qp (.cells #[O3 a.k,O3 a.n,Pj a.s] 65);refine Vm (v:=.tuple #[O3 (-1),.iface T ac]) ?_;rw[t.out];exact⟨⟨_,rfl,aC.fH d⟩,j.fH d,D.trans (P8.of (L:=none) d (P6 N))⟩):=O6 h;exact nu):=O6 h;exact oK):=O6 h;exact m9
def UX (ai:C.2.fJ.length=1)(d:Pl)(o:Option Addr)(ad:Ux M k I z es g (Pg C 0) d (U.v (Pg C 0) d g)) :
  Pq 260 #[O5 k,O5 u.p,Qy d o] w (P5 M k I z es w (oU U C d g)):=by
 have b{G}(h:G:=by
 have bB:=Y (fN F);have b{G}(h:G:=by
 have b{G}(h:G:=by
 have b{G}(h:G:=by
 obtain⟨bv,p⟩:=xE (oU U C ⟨l,q,r⟩ g);rw[<-p,<-a1.out];have b{G}(h:G:=by
 have a6:=Y p;have am:=Y X;clear F aW p X ad bo aY bC bx bq bS;go_enter func260,ntmps260;go_wp2_with fail;refine iz ?_;clear bu bh;refine WJ (H:=λwz D s=>VB M k I z es w2 f E T wz D s) (G:=?GG) (λaN=>?ways) ?rest
 case ways=>
  exact nU
 case rest=>
  have b{G}(h:G:=by
  have b4:P8 none k w wz:=bE.trans A.fr;clear cx;obtain⟨ba,aI,aO,bN,bF,bG,b6⟩:=Qb (A.v)
  by_cases B:E=.no
  ·subst B;have c:s=QW:=A.er;subst c;have O:=X6 f wz;obtain⟨bt,aG⟩:=xH f.iU;rw[<-aG.out] at O;go_wp2_with fail;refine cm O ?_;rintro m bi ⟨rfl,t⟩;go_wp2_with fail;obtain⟨W,N⟩:=xH (QE (!bt));have ac:=WI (!bt) bi;rw[<-N.out] at ac;refine cm ac ?_;rintro m wb ⟨rfl,a8⟩;have e:=t.trans (a8.mono t.size);have bc:=Y (fQ e b1.out);have bR:=A.ms.fH e;have bM:=b4.trans (P8.of (L:=none) e (P6 cD));obtain⟨bT,bU,bY,bZ,b2,b3,bL⟩:=Qb bc.out
   clear da ch dc dd de dg ba aI aO bN bF bG;have b{G}(h:G:=by
   have a:bv=((W,.no),T):=by rw[a6.out];unfold oU;rw[am.out,N.out,aG.out]
   rw[a];exact⟨⟨_,rfl,rfl⟩,aC,aD⟩):=O6 h;exact ox
  ·obtain⟨bL,bM,c⟩:=A.er.XO B ay;subst c;have a:bv=((vU,E),T):=by
    rw[a6.out];unfold oU;rw[am.out];exact jZ
   have e:=Y a;clear B a;have a6:=e;exact vt):=O6 h;exact JY):=O6 h;exact p1):=O6 h;exact pA):=O6 h;exact nw):=O6 h;exact VF):=O6 h;exact Yf
