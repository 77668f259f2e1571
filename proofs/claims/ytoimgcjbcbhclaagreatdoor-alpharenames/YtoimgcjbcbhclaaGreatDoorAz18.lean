import Derived.Test.YtoimgcjbcbhclaaGreatDoorAz14
import Derived.Test.YtoimgcjbcbhclaaGreatDoorAz15
set_option maxRecDepth 100000
set_option maxHeartbeats 0
set_option linter.all false
namespace Go.Proofs.YtoimgcjbcbhclaaGreatDoor
open Go.RowKit Go.Proofs.Tryz
structure Tabs (w:LK):Prop where
 heads:∃ t fr,w.heap[3]? = some (.cells Ue t fr)
 signs:∃ t fr,w.heap[2]? = some (.cells UC t fr)
def Tabs.later {w w':LK}(h:Tabs w)(D:LX w w'):Tabs w':=by
 obtain⟨⟨t,fr,E⟩,⟨gl,xx,O⟩⟩:=h;exact⟨⟨t,fr,by rw[D.block _ (lt_of_heap E)];exact E⟩,⟨gl,xx,by rw[D.block _ (lt_of_heap O)];exact O⟩⟩
def aou (w:LK):LX w (RW w):=Qn.alloc MP _
def aeh (w:LK)(l:List Tk)(g cap:Nat)(cj:Array LY)(a3:Ends l)(aJ:0<l.length)(ab:l.length<=3001)(aH:w.heap[g]? = some (NK cj 138))(hcap:l.length<=cap/\cap<=maxLen/\cj.size=cap * 4/\cj.toList.take (l.length * 4)=OI l)(ce:Tabs w) :
  MC 43 #[.slice (some (LD g 0)) l.length cap] w (abl (PZ l (fns l KK)) w):=by
 have D:=aou w;have xY:=ce.later D;have b3:=acd (RW w) l g cap cj a3 aJ ab (by rw[D.block _ (lt_of_heap aH)];exact aH) hcap xY.heads xY.signs
 have ai:∀ c:Ctx,c.l=l->FC c (fns c.l KK):=λc am=>aov c (by rw[am];exact a3) KK
 have ae:=(Wh a3 aJ ab).1
 cases T:PZ l (fns l KK) with
 | out=>exact absurd T ae
 | bad er pl=>
  refine aow w l g cap er pl b3 λc L am aY=>?_;exact ayY
 | ok t j=>
  refine arC w l g cap t j b3 λc L am aY=>?_;exact ayY
section
variable (s:LW) (w:LK)
include s w
def aiE (W:3000<s.size):MC 14 #[LQ s] w (YW .bare w):=by
 have ag:=hide (agC s w W);clear W;go_enter func14,ntmps14;have A{G}(h:G:=by
 exact Ug (v:=.tuple #[Pe,.iface 31 (LJ 4)]) ⟨rfl,O4⟩):=LG h;exact Xw
def aiF (er:Int)(p:Nat)(h:MC 42 #[LQ s] w (aj1 (.bad er p) w)):MC 14 #[LQ s] w (YW (.at er p) w):=by
 have ag:=hide h;clear h;go_enter func14,ntmps14;go_wp2_with fail;refine NJ ?_;rintro e w1 ⟨b,rfl,bz,a5,bx⟩;have nk:=hide bz;have iG:=hide bx;have ib:=hide a5;clear bz a5;go_wp2_with fail;exact Ug (v:=.tuple #[Pe,.iface 144 (Mc b 0)]) ⟨b,rfl,nk.out,ib.out,iG.out⟩
def al8 (l:List Tk)(er:Int)(p:Nat)(h:MC 42 #[LQ s] w (aj1 (.ok l) w))(aJ:0<l.length)(T:∀ (L:LK) (g cap:Nat) (cj:Array LY),LX w L->L.heap[g]? = some (NK cj 138)->(l.length<=cap/\cap<=maxLen/\cj.size=cap * 4/\cj.toList.take (l.length * 4)=OI l)->MC 43 #[.slice (some (LD g 0)) l.length cap] L (abl (.bad er p) L)) :
  MC 14 #[LQ s] w (YW (.at er p) w):=by
 have ag:=hide h;have bo:=hide T;clear h T;go_enter func14,ntmps14;go_wp2_with fail;refine NJ ?_;rintro e w1 ⟨v,rfl,hown,bz⟩
 rcases hown.2 with av|⟨g,cap,cj,rfl,hg,a2,E,O,ao,aM⟩
 ·omega
 ·have b9:=hide (bo.out w1 g cap cj bz a2 ⟨E,O,ao,aM⟩);have ba:=hide bz;clear bz hg a2 E O ao aM;go_wp2_with fail;refine Ul ?_;rintro e w2 ⟨b,rfl,bz,a5,bx⟩;have nk:=hide bz;have iG:=hide (ba.out.trans (bx.mono ba.out.size));have ib:=hide (zalan ba.out.size a5);clear bz a5;go_wp2_with fail;exact Ug (v:=.tuple #[Pe,.iface 144 (Mc b 0)]) ⟨b,rfl,nk.out,ib.out,iG.out⟩
def aox (l:List Tk)(t:Tr)(j:Nat)(h:MC 42 #[LQ s] w (aj1 (.ok l) w))(aJ:0<l.length)(am:t.count<=90000)(T:∀ (L:LK) (g cap:Nat) (cj:Array LY),LX w L->L.heap[g]? = some (NK cj 138)->(l.length<=cap/\cap<=maxLen/\cj.size=cap * 4/\cj.toList.take (l.length * 4)=OI l)->MC 43 #[.slice (some (LD g 0)) l.length cap] L (abl (.ok t j) L)) :
  MC 14 #[LQ s] w (YW (if 1500<t.count then .bare else .ok t) w):=by
 have ag:=hide h;have bo:=hide T;have q8:=hide am;obtain⟨r,tU⟩:∃ r,r=(if 1500<t.count then PaR.bare else .ok t):=⟨_,rfl⟩;rw[<-tU];have dv:=hide tU;clear h T am tU;go_enter func14,ntmps14;go_wp2_with fail;refine NJ ?_;rintro e w1 ⟨v,rfl,hown,bz⟩
 rcases hown.2 with av|⟨g,cap,cj,rfl,hg,a2,E,O,ao,aM⟩
 ·omega
 ·have b9:=hide (bo.out w1 g cap cj bz a2 ⟨E,O,ao,aM⟩);have ba:=hide bz;clear hg a2 E O ao aM;go_wp2_with fail;refine Ul ?_;rintro e w2 ⟨p,rfl,av,D⟩;have b3:=hide av;have bj:=hide (ba.out.trans (D.mono ba.out.size));have cK:=hide (aos w1.heap.size t p w2 av q8.out);have f':=hide ba.out.size;clear av D;go_wp2_with fail;refine WB ?_;rintro e aq ⟨rfl,bx⟩;have bV:=hide (bj.out.trans (bx.mono bj.out.size))
  have gU:Hid (Nj (From w.heap.size) aq t p):=Nj.mono (λb D _=>zalan f'.out D) _ _ (Nj.later (I:=From w1.heap.size) (λb _ ab=>bx.block b ab) _ _ b3.out)
  by_cases eX:1500<t.count
  ·have ac:r=.bare:=by rw[dv.out,zalak eX]
   have aG:=hide ac;clear ac;have ak:(1500:Int)<(t.count:Int):=LM;clear eX;go_wp2_with fail;exact Ug (v:=.tuple #[Pe,.iface 31 (LJ 4)]) (by rw[aG.out];exact⟨rfl,bV.out⟩)
  ·have ac:r=.ok t:=by rw[dv.out,zalah eX]
   have aG:=hide ac;clear ac;have ak:¬ (1500:Int)<(t.count:Int):=LM;clear eX;go_wp2_with fail;exact Ug (v:=.tuple #[LC p,nIZ]) (by rw[aG.out];exact⟨p,rfl,gU.out,bV.out⟩)
end
def parse_any (aj bi:List LW)(s:LW)(w:LK)(bm:Lists aj bi w)(hQ:∀ g ∈ bi,1<=g.size)(ce:Tabs w):MC 14 #[LQ s] w (YW (UM aj bi s) w):=by
 unfold UM
 by_cases W:3000<s.size
 ·rw[zalak W];exact aiE s w W
 ·rw[zalah W];have N:=aiG aj bi s w LM bm hQ
  cases aH:Pn aj bi s (MH O8 s 0) [] with
  | bad er p=>rw[aH] at N;exact aiF s w er p N
  | ok l=>
   rw[aH] at N;obtain⟨a3,aJ,ab⟩:=Zm hQ aH;have gx:l.length<=3001:=LM;obtain⟨cv,bE⟩:=Wh a3 aJ gx;have aY:=λ(L:LK) (g cap:Nat) (cj:Array LY) (D:LX w L) a2 hcap=>aeh L l g cap cj a3 aJ gx a2 hcap (ce.later D);simp only
   cases T:PZ l (fns l KK) with
   | out=>exact absurd T cv
   | bad er p=>rw[T] at aY;exact al8 s w l er p N aJ aY
   | ok t j=>
    rw[T] at aY;have aT:=bE t j T;have qu:=ajE (anC KK) T;exact aox s w l t j N aJ LM aY
section
open Go.ChangeShapes Go.WideShapes Go.ChangeAt Go.WideMaps Go.WideElems Go.RowKit
def ajr : Tryz.prog.globalNamed "sloppyscope/tree.signs" = some 2 := by kernel_rfl
def ajs : Tryz.prog.globalNamed "sloppyscope/tree.heads" = some 3 := by kernel_rfl
def apF:(Tryz.prog.globals[2]?).map (·.type)=some 190:=by kernel_rfl
def apG:(Tryz.prog.globals[3]?).map (·.type)=some 194:=by kernel_rfl
def afJ:Tryz.prog.cellsOf 189=4:=by kernel_rfl
def cells3:Tryz.prog.cellsOf 3=1:=by kernel_rfl
def anT:Tryz.prog.cellsOf 190=56:=by kernel_rfl
def ajH:Tryz.prog.cellsOf 193=2:=by kernel_rfl
def anU:Tryz.prog.cellsOf 194=16:=by kernel_rfl
def Y6 (k:Nat)(N:0<k):∀ (ah:List (List Value)) (bl:List Value),(∀ l ∈ ah,l.length=k)->bl.length=ah.length * k->(∀ i (ak:i<ah.length),(bl.drop (i * k)).take k=ah[i])->bl=ah.flatten
 | [],bl,_,ab,_=>by
  have:bl.length=0:=by simpa using ab
  simpa using this
 | l::ah,bl,h,ab,ae=>by
  have aJ:=ae 0 (by simp);simp only[Nat.zero_mul,List.drop_zero,zaldn] at aJ;have E:=Y6 k N ah (bl.drop k) (λx af=>h x (zalca _ af)) (by rw[zalhm,ab,zalbf,zalhq];omega) (λi ak=>by
   have:=ae (i+1) (by simpa using ak);rw[zalev] at this;rw[zalhw,show k+i * k=(i+1) * k by rw[zalhq];omega]
   exact this)
  rw[zaldm,<-aJ,<-E,zalcd]
section
variable {L:World} {fuel:Nat} {bl:List Value}
include L fuel bl
def adZ {z:Int}{q:List MemPlace}(h:DataW.trod (λ_=>()) Tryz.prog L 0 (λ_=>true) false fuel 3 bl=some (.lit (.int .i64 z),q)):bl=[.int .i64 z]:=by
 obtain⟨k,e,f,_⟩:=zalhx zalfx h;simp only[zaleb,DataW.lit.injEq,Lit.int.injEq,true_and] at f;rw[e,<-f.1]
def text_of {l:List UInt8}{q:List MemPlace}(h:DataW.trod (λ_=>()) Tryz.prog L 0 (λ_=>true) false fuel 9 bl=some (.lit (.string l),q)):bl=[.string (ofBytes l)]:=by
 obtain⟨s,aW,a4,_⟩:=DataW.trod_string zaldk h;simp only[zaleb,DataW.lit.injEq,Lit.string.injEq] at a4;rw[aW,XV a4.1.symm]
end
def aqi {bl:List Value}(ab:bl.length=4){a b c d:Value}(aJ:(bl.drop 0).take 1=[a])(E:(bl.drop 1).take 1=[b])(O:(bl.drop 2).take 1=[c])(ao:(bl.drop 3).take 1=[d]):bl=[a,b,c,d]:=by
 match bl,ab with
 | [x,y,z,u],_=>simp at aJ E O ao;rw[aJ,E,O,ao]
def fields2 {bl:List Value}(ab:bl.length=2){a b:Value}(aJ:(bl.drop 0).take 1=[a])(E:(bl.drop 1).take 1=[b]):bl=[a,b]:=by
 match bl,ab with
 | [x,y],_=>simp at aJ E;rw[aJ,E]
def sgD (l:List UInt8)(a b c:Int):DataW Unit:=.agg [.lit (.string l),.lit (.int .i64 a),.lit (.int .i64 b),.lit (.int .i64 c)]
def hdD (l:List UInt8)(a:Int):DataW Unit:=.agg [.lit (.string l),.lit (.int .i64 a)]
def WY {H:Type}{bQ:List (DataW H × List MemPlace)}{eQ:List (DataW H)}(h:eQ=bQ.map (·.1))(i:Nat)(d:DataW H)(aD:eQ[i]? = some d):∃ q,bQ[i]? = some (d,q):=by
 subst h;rw[zalbx] at aD
 cases af:bQ[i]? with
 | none=>rw[af] at aD;cases aD
 | some x=>
  rw[af] at aD;exact⟨x.2,by rw[<-zalbo aD]⟩
section
variable {L:World} {fuel:Nat} {bl:List Value} {l:List UInt8}
include L fuel bl l
def ayi {a b c:Int}{q:List MemPlace}(h:DataW.trod (λ_=>()) Tryz.prog L 0 (λ_=>true) false fuel 189 bl=some (sgD l a b c,q)) :
  bl=[.string (ofBytes l),.int .i64 a,.int .i64 b,.int .i64 c]:=by
 obtain⟨bQ,n,_,af,ab,av,kZ⟩:=DataW.trod_struct Tryz.underlying189 h;simp only[zaleb,sgD,zaler] at af;rw[afJ] at ab;obtain⟨cn,mB⟩:=WY af.1 0 _ rfl;obtain⟨bC,dg⟩:=WY af.1 1 _ rfl;obtain⟨dM,gA⟩:=WY af.1 2 _ rfl;obtain⟨iE,x3⟩:=WY af.1 3 _ rfl;have f0:=kZ 0 _ rfl;have f1:=kZ 1 _ rfl;have gp:=kZ 2 _ rfl;have dR:=kZ 3 _ rfl;rw[mB] at f0;rw[dg] at f1;rw[gA] at gp;rw[x3] at dR;have fN:(bl.drop 0).take (Tryz.prog.cellsOf 9)=_:=text_of f0
 have fc:(bl.drop 1).take (Tryz.prog.cellsOf 3)=_:=adZ f1;have dn:(bl.drop 2).take (Tryz.prog.cellsOf 3)=_:=adZ gp;have hv:(bl.drop 3).take (Tryz.prog.cellsOf 3)=_:=adZ dR;rw[cells9] at fN;rw[cells3] at fc dn hv;exact aqi ab fN fc dn hv
def ayj {a:Int}{q:List MemPlace}(h:DataW.trod (λ_=>()) Tryz.prog L 0 (λ_=>true) false fuel 193 bl=some (hdD l a,q)) :
  bl=[.string (ofBytes l),.int .i64 a]:=by
 obtain⟨bQ,n,_,af,ab,av,kZ⟩:=DataW.trod_struct Tryz.underlying193 h;simp only[zaleb,hdD,zaler] at af;rw[ajH] at ab;obtain⟨cn,mB⟩:=WY af.1 0 _ rfl;obtain⟨bC,dg⟩:=WY af.1 1 _ rfl;have f0:=kZ 0 _ rfl;have f1:=kZ 1 _ rfl;rw[mB] at f0;rw[dg] at f1;have fN:(bl.drop 0).take (Tryz.prog.cellsOf 9)=_:=text_of f0;have fc:(bl.drop 1).take (Tryz.prog.cellsOf 3)=_:=adZ f1;rw[cells9] at fN;rw[cells3] at fc;exact fields2 ab fN fc
end
def ayk:List (List UInt8 × Int × Int × Int):=YU.map λe=>(e.tx.data.toList,e.kd,e.parts,e.str)
def ayl:List (List UInt8 × Int):=hds.map λe=>(e.1.data.toList,e.2)
section
variable {L:World} {fuel:Nat} {bl:List Value} {p:List MemPlace}
include L fuel bl p
def akG (h:DataW.trod (λ_=>()) Tryz.prog L 0 (λ_=>true) false fuel 190 bl=some (.agg (ayk.map λe=>sgD e.1 e.2.1 e.2.2.1 e.2.2.2),p)):bl=UC.toList:=by
 obtain⟨bQ,m,_,af,hlen,av,kZ⟩:=DataW.trod_array Tryz.underlying190 h;simp only[zaleb,zaler] at af;rw[anT] at hlen;have key:bl=(ayk.map λe=>[Value.string (ofBytes e.1),.int .i64 e.2.1,.int .i64 e.2.2.1,.int .i64 e.2.2.2]).flatten:=by
  refine Y6 4 (by decide) _ bl ?_ (by rw[hlen];rfl) ?_
  ·intro l ab;obtain⟨e,_,rfl⟩:=zalcn.1 ab;rfl
  ·intro i ak;rw[zalag] at ak;have yD:i<14:=ak;have he:=kZ i yD;rw[afJ] at he;obtain⟨q,ac⟩:=WY af.1 i _ (by rw[zalbx,zalai ak];rfl)
   rw[ac] at he;rw[ayi he,zalcx]
 rw[key];rfl
def akH (h:DataW.trod (λ_=>()) Tryz.prog L 0 (λ_=>true) false fuel 194 bl=some (.agg (ayl.map λe=>hdD e.1 e.2),p)):bl=Ue.toList:=by
 obtain⟨bQ,m,_,af,hlen,av,kZ⟩:=DataW.trod_array Tryz.underlying194 h;simp only[zaleb,zaler] at af;rw[anU] at hlen;have key:bl=(ayl.map λe=>[Value.string (ofBytes e.1),.int .i64 e.2]).flatten:=by
  refine Y6 2 (by decide) _ bl ?_ (by rw[hlen];rfl) ?_
  ·intro l ab;obtain⟨e,_,rfl⟩:=zalcn.1 ab;rfl
  ·intro i ak;rw[zalag] at ak;have yD:i<8:=ak;have he:=kZ i yD;rw[ajH] at he;obtain⟨q,ac⟩:=WY af.1 i _ (by rw[zalbx,zalai ak];rfl)
   rw[ac] at he;rw[ayj he,zalcx]
 rw[key];rfl
end
end
def Ord (lo ak:Nat)(l:List Us):Prop:=l.Pairwise (λa b=>a.1<b.1)/\∀ u ∈ l,(lo:Int)<=u.1/\u.1<(ak:Int)
def Ord.nil (lo ak:Nat):Ord lo ak []:=⟨List.Pairwise.nil,λ_ h=>absurd h MP⟩
def Ord.wide {lo ak Dq yC:Nat}{l:List Us}(h:Ord lo ak l)(E:Dq<=lo)(O:ak<=yC):Ord Dq yC l:=⟨h.1,λu aS=>by have:=h.2 u aS;omega⟩
def Ord.app {lo wl ak:Nat}{a b:List Us}(aa:Ord lo wl a)(D:Ord wl ak b)(E:lo<=wl)(O:wl<=ak):Ord lo ak (a++b):=by
 refine⟨List.pairwise_append.2 ⟨aa.1,D.1,λx af y hy=>?_⟩,λu aS=>?_⟩
 ·have aW:=(aa.2 x af).2;have a4:=(D.2 y hy).1;omega
 ·rcases zalat.1 aS with aS|aS
  ·have:=aa.2 u aS;omega
  ·have:=D.2 u aS;omega
def aj3 {f:Tr->Nat->List Sc->Bool->List Us}(an:∀ t no ch st,Ord no (no+t.count) (f t no ch st)):∀ (ts:List Tr) (no:Nat) (ch:List Sc) (st:Bool),Ord no (no+Tr.counts ts) (Rh f ts no ch st)
 | [],no,_,_=>Ord.nil _ _
 | t::ts,no,ch,st=>by
  rw[Rh,L6];refine Ord.app (an t no ch st) ((aj3 an ts (no+t.count) ch st).wide Nh LM) LM LM
def aaD:∀ (m:Nat) (t:Tr) (no:Nat) (ch:List Sc) (st:Bool),Ord no (no+t.count) (tl m t no ch st)
 | 0,_,_,_,_=>Ord.nil _ _
 | m+1,t,no,ch,st=>by
  have aU:=aj3 (f:=tl m) (aaD m);have am:=Ou t;rw[tl]
  split
  ·have h:=aU t.kids (no+1) ch (st||MW t);refine⟨List.pairwise_cons.2 ⟨λu aS=>?_,h.1⟩,λu aS=>?_⟩
   ·have:=(h.2 u aS).1
    show (no:Int)<u.1
    omega
   ·rcases zalas.1 aS with rfl|aS
    ·show (no:Int)<=(no:Int)/\(no:Int)<((no+t.count:Nat):Int)
     omega
    ·have:=h.2 u aS;omega
  split
  ·exact(aU t.kids (no+1) _ _).wide LM LM
  split
  ·exact(aU t.kids (no+1) _ _).wide LM LM
  split
  ·exact(aU t.kids (no+1) _ _).wide LM LM
  split
  ·split
   ·rename_i k0 a9 ks N
    rw[N,L6,L6] at am;exact(Ord.app (aaD m k0 (no+1) ch (st||MW t)) (aaD m a9 (no+1+k0.count) (⟨0,[],true⟩::ch) (st||MW t)) LM LM).wide LM LM
   ·exact Ord.nil _ _
  split
  ·split
   ·rename_i pr b6 ks N
    rw[N,L6,L6] at am;have O:=Ou b6;exact(aU b6.kids (no+1+pr.count+1) _ _).wide LM LM
   ·exact Ord.nil _ _
  split
  ·exact Ord.nil _ _
  ·exact(aU t.kids (no+1) _ _).wide LM LM
def RI (x:LW):x.data.toList.length=x.size:=by simp
def aeJ {x y:LW}(h:x.data.toList=y.data.toList):x=y:=zalgl h
def Ws (x p:LW):Xj x p=true↔p.data.toList <+: x.data.toList:=by
 unfold Xj;rw[zalee,zaldx,zalbz,zaldf,zaldf,ext_list,List.drop_zero,Nat.sub_zero,zalfv,RI];constructor
 ·rintro⟨_,h⟩;exact h.symm
 ·intro h;refine⟨?_,h.symm⟩;have:=zaldg List.length h;rw[zalbe,RI,RI] at this;omega
def ahc (bi:List LW)(s:LW)(k:Nat)(g:LW)(N:k<=s.size)(an:bi.find? (λg=>Xj (s.extract k s.size) g)=some g) :
  bi.find? (λdJ=>Xj (s.extract k (k+g.size)) dJ)=some g/\k+g.size<=s.size/\s.extract k (k+g.size)=g:=by
 have ae:=zaldw an;have bE:=(Ws _ _).1 ae;have hfull:(s.extract k s.size).data.toList=s.data.toList.drop k:=by
  rw[ext_list,zalcv (by rw[zalhm,RI];omega)]
 rw[hfull] at bE;have hlen:=bE.length_le;rw[zalhm,RI,RI] at hlen;have af:s.extract k (k+g.size)=g:=by
  apply aeJ;rw[ext_list,zalfu,<-RI g];exact(zalfv.1 bE).symm
 refine⟨?_,by by_cases aJ:g.size=0 <;> omega,af⟩;rw[af];rw[zalfd] at an ⊢;obtain⟨_,i,ak,yv,hall⟩:=an;refine⟨(Ws _ _).2 (List.prefix_refl _),i,ak,yv,λj aT=>?_⟩;have av:=hall j aT
 cases am:Xj g bi[j]
 ·rfl
 ·have E:=(Ws _ _).1 am;have O:Xj (s.extract k s.size) bi[j]=true:=(Ws _ _).2 (by rw[hfull];exact E.trans bE)
  rw[O] at av;simp at av
def RN:∀ g ∈ ML,1<=g.size:=by decide +kernel
def avW (aj:List LW)(s:LW)(w wr:LK)(r:TR)(K:Act->LK->Prop)(f:Nat->LY)(v:LY)(j:Nat)(au:List Tk)(W:s.size<=3000)(aC:j<s.size)(ej:au.length<=j)(bm:Om aj w)
  (he:Pn aj ML s (MH O8 s j) au=r) (hinv:RInv w au v wr):Code.wp prog body6 (Q6 aj s w r K (s.size - j)) (fr s w.heap.size v (LJ (j:Int)) f) wr:=by
 have dL:=aa4 s j aC
 cases f8:O8 (s[j].toNat:Int)
 ·
  cases hlet:Sm (s[j].toNat:Int)
  ·
   cases hdig:Nl (s[j].toNat:Int)
   ·by_cases pe:s[j]=39
    ·have dP:(((s[j].toNat:Nat):Int)==39)=true:=by rw[pe];rfl
     have j1:Oe aj ML s j=rdStr s j:=by unfold Oe;rw[dL,hlet,hdig,zalah MP,zalah MP,zalak pe]
     cases a7:Ti s (j+1) [] with
     | ok l e=>
      have D:=ZV s _ (j+1) [] l e rfl a7
      by_cases rM:500<l.length
      ·exact ams aj s w wr r K f v j au W aC ej bm he hinv f8 hlet hdig dP l e a7 rM (by rw[j1];unfold rdStr;rw[a7];simp[rM])
      ·exact arV aj s w wr r K f v j au W aC ej bm he hinv f8 hlet hdig dP l e a7 D.2.1 LM LM (by rw[j1];unfold rdStr;rw[a7];simp[rM])
     | bad p=>exact aoQ aj s w wr r K f v j au W aC ej bm he hinv f8 hlet hdig dP p a7 (by rw[j1];unfold rdStr;rw[a7])
    ·have dP:(((s[j].toNat:Nat):Int)==39)=false:=by rw[show (39:Int)=(((39:UInt8).toNat:Nat):Int) from rfl,Rf];simp[pe]
     have j1:Oe aj ML s j=RG ML s j:=by unfold Oe;rw[dL,hlet,hdig,zalah MP,zalah MP,zalah pe]
     cases an:ML.find? (λg=>Xj (s.extract j s.size) g) with
     | none=>
      refine amu aj s w wr r K f v j au W aC ej bm he hinv f8 hlet hdig dP (λk N=>?_) (by rw[j1];unfold RG;rw[an])
      have aA:ML.getD k ByteArray.empty ∈ ML:=by rw[zalay,zalai (by rw[XJ];exact N)];exact zalao _
      simpa using zalet.1 an _ aA
     | some g=>
      have am:=ahc ML s j g LM an;have vN:=zalbc an;have gd:=RN g vN;obtain⟨hyes,m,aA,yv,hall⟩:=zalfd.1 an;have CC:m<19:=by rw[XJ] at aA;exact aA
      have m3:ML.getD m ByteArray.empty=g:=by rw[zalay,zalai aA];exact yv
      refine amv aj s w wr r K f v j au W aC ej bm he hinv f8 hlet hdig dP m CC g m3 gd (by rw[<-m3];exact abt m CC) (λk N=>?_) hyes _ rfl am.2.1 (by rw[j1];unfold RG;rw[an])
      have:=hall k N;rw[zalay,zalai LM];simpa using this
   ·have dI:j<MH Nl s j:=by rw[<-Qz Nl s j aC hdig];have:=QF Nl s (j+1);omega
    have c8:=QV Nl s j LM;have j1:Oe aj ML s j=rdNum s j:=by unfold Oe;rw[dL,hlet,hdig,zalah MP,zalak rfl]
    have fU:=at_eq s j aC
    by_cases eL:10<MH Nl s j - j
    ·have aY:Oe aj ML s j=.bad 3 j:=by rw[j1];unfold rdNum;rw[zalak eL]
     rcases zaldj c8 with af|af
     ·exact acs aj s w wr r K f v j au W aC ej bm he hinv f8 hlet hdig _ rfl dI c8 af eL aY
     ·exact acu aj s w wr r K f v j au W aC ej bm he hinv f8 hlet hdig _ rfl dI c8 af eL aY
    ·by_cases E:1<MH Nl s j - j
     ·by_cases hz:((s[j].toNat:Nat):Int)=48
      ·have aY:Oe aj ML s j=.bad 3 j:=by rw[j1];unfold rdNum;rw[zalah eL,zalak ⟨E,by rw[fU];exact hz⟩]
       rcases zaldj c8 with af|af
       ·exact acv aj s w wr r K f v j au W aC ej bm he hinv f8 hlet hdig _ rfl dI c8 af eL E (zalbz.2 hz) aY
       ·exact acw aj s w wr r K f v j au W aC ej bm he hinv f8 hlet hdig _ rfl dI c8 af eL E (zalbz.2 hz) aY
      ·have am:¬ (1<MH Nl s j - j/\(((s.data.toList.getD j 0).toNat:Nat):Int)=48):=λh=>hz (by have:=h.2;rw[fU] at this;exact this)
       by_cases D:1000000000<TS (s.extract j (MH Nl s j)).data.toList
       ·have aY:Oe aj ML s j=.bad 2 j:=by rw[j1];unfold rdNum;rw[zalah eL,zalah am,zalak D]
        rcases zaldj c8 with af|af
        ·exact aeF aj s w wr r K f v j au W aC ej bm he hinv f8 hlet hdig _ rfl dI c8 af _ rfl eL E (zalaj.2 hz) D aY
        ·exact aeG aj s w wr r K f v j au W aC ej bm he hinv f8 hlet hdig _ rfl dI c8 af _ rfl eL E (zalaj.2 hz) D aY
       ·have A{G}(h:G:=by
        rcases zaldj c8 with af|af
        ·exact acy aj s w wr r K f v j au W aC ej bm he hinv f8 hlet hdig _ rfl dI c8 af _ rfl eL E (zalaj.2 hz) D aY
        ·exact acz aj s w wr r K f v j au W aC ej bm he hinv f8 hlet hdig _ rfl dI c8 af _ rfl eL E (zalaj.2 hz) D aY):=LG h;exact aBK
     ·have am:¬ (1<MH Nl s j - j/\(((s.data.toList.getD j 0).toNat:Nat):Int)=48):=λh=>E h.1;have bK:=extract_size s j (MH Nl s j) LM c8;have hds:∀ b ∈ (s.extract j (MH Nl s j)).data.toList,Nl (b.toNat:Int)=true:=by
       have:=XL (s.extract j (MH Nl s j)) (λi ak=>by
        rw[UZ s j _ i c8 ak];exact YA Nl s (s.size - j) j LM (j+i) LM LM LM) (MH Nl s j - j)
       rw[zalcv (by rw[YI];omega)] at this
       exact this
      have bz:=(XK _ hds).2;have ab:(s.extract j (MH Nl s j)).data.toList.length=1:=by rw[YI];omega
      rw[ab] at bz;have D:¬ 1000000000<TS (s.extract j (MH Nl s j)).data.toList:=LM;have A{G}(h:G:=by
      rcases zaldj c8 with af|af
      ·exact aeH aj s w wr r K f v j au W aC ej bm he hinv f8 hlet hdig _ rfl dI c8 af _ rfl E D aY
      ·exact aeI aj s w wr r K f v j au W aC ej bm he hinv f8 hlet hdig _ rfl dI c8 af _ rfl E D aY):=LG h;exact aBK
  ·have tN:OL (s[j].toNat:Int)=true:=by unfold OL;rw[hlet];rfl
   have dI:j<MH OL s j:=by rw[<-Qz OL s j aC tN];have:=QF OL s (j+1);omega
   have c8:=QV OL s j LM;have j1:Oe aj ML s j=QG aj s j:=by unfold Oe;rw[dL,hlet,zalak rfl]
   cases hw:isIn aj (s.extract j (MH OL s j))
   ·by_cases gr:20<MH OL s j - j
    ·have aY:Oe aj ML s j=.bad 4 j:=by rw[j1];unfold QG;rw[hw];simp[gr]
     rcases zaldj c8 with af|af
     ·exact aeK aj s w wr r K f v j au W aC ej bm he hinv f8 hlet _ rfl dI c8 af hw gr aY
     ·exact aeL aj s w wr r K f v j au W aC ej bm he hinv f8 hlet _ rfl dI c8 af hw gr aY
    ·have aY:Oe aj ML s j=.tok 1 (s.extract j (MH OL s j)) 0 (MH OL s j):=by rw[j1];unfold QG;rw[hw];simp[gr]
     rcases zaldj c8 with af|af
     ·exact aeM aj s w wr r K f v j au W aC ej bm he hinv f8 hlet _ rfl dI c8 af hw gr aY
     ·exact aeN aj s w wr r K f v j au W aC ej bm he hinv f8 hlet _ rfl dI c8 af hw gr aY
   ·have aY:Oe aj ML s j=.tok 2 (s.extract j (MH OL s j)) 0 (MH OL s j):=by rw[j1];unfold QG;rw[hw];simp
    rcases zaldj c8 with af|af
    ·exact aeO aj s w wr r K f v j au W aC ej bm he hinv f8 hlet _ rfl dI c8 af hw aY
    ·exact aeP aj s w wr r K f v j au W aC ej bm he hinv f8 hlet _ rfl dI c8 af hw aY
 ·have hg:=f8;simp only[O8,zaldh,zalbz] at hg
  by_cases BG:((s[j].toNat:Nat):Int)=32
  ·exact aoR aj s w wr r K f v j au W aC ej bm he hinv f8 (zalbz.2 BG)
  ·exact aoS aj s w wr r K f v j au W aC ej bm he hinv f8 (zalaj.2 BG) (zalbz.2 LM)
def arf {w bn:LK}{au:List Tk}{v:LY}{n:Nat}(h:RInv w au v bn)(av:n=au.length)(v0 v1:LY) :
  ((bn.setCell (LD w.heap.size 0) v0).setCell (LD w.heap.size 1) v1).ownsRow w.heap.size 167 4 v n (OI au):=by
 subst av;exact own_base LM (ownsRow_setCell_below (ownsRow_setCell_below h.own MP _) MP _)
def acA (aj:List LW)(s:LW)(w:LK)(W:s.size<=3000)(bm:Om aj w) :
  MC 109 #[LQ s] w (ahb (Pn aj ML s (MH O8 s 0) []) w):=by
 obtain⟨a6,ak,bL,bM,bP⟩:=zalbl anZ;obtain⟨r,T⟩:∃ r,Pn aj ML s (MH O8 s 0) []=r:=⟨_,rfl⟩;have bo:=hide T;rw[T];have cQ:=hide bm;clear T;go_enter func109,ntmps109;go_wp2_with fail
 rename_i K U
 refine wp_loop (WI aj s w r) (mu6 s) ?_ ?_
 ·exact aaX 0 [] QJ (zalae _) (zalae _) bo.out ⟨zalhd _ _ _ _,O4⟩ Nw
 ·intro a wr cz;obtain⟨j,au,v,f,aT,ej,he,hinv,rfl⟩:=cz;have m5:mu6 s (fr s w.heap.size v (LJ (j:Int)) f) wr=s.size - j:=rfl;rw[m5];change Code.wp prog body6 (Q6 aj s w r K (s.size - j)) (fr s w.heap.size v (LJ (j:Int)) f) wr
  by_cases aC:j<s.size
  ·exact avW aj s w wr r K f v j au W aC ej cQ.out he hinv
  ·have cF:MH O8 s j=j:=RS O8 s j LM;have ac:r=.ok (au++[Tk.mk 6 ⟨#[]⟩ 0 s.size]):=by rw[<-he,cF,UG aj ML s j au aC]
   have eE:=hide hinv;obtain⟨kw,kx,nf,ng⟩:=hinv.cells;clear he cF;subst ac
   conv=>arg 2;whnf
   unfold fr Q6;go_wp2_with fail;refine zln ?_;have pP:=hide (eE.out.later (O4.drew));obtain⟨fl,mW⟩:∃ fl,fl=wr.drew:=⟨_,rfl⟩;rw[<-mW] at pP ⊢;have xU:=pP.out.lists cQ.out;have m':=xU.f0;have bZ:=xU.f1;have hlt0:1<fl.heap.size:=RH m';have jm:(fl.alloc (.cells #[LJ 6,U7,LJ 0,LJ (s.size:Int)] 167)).cell? (LD 1 0)=some (LJ 0):=by rw[zalbi _ _ _ hlt0];exact m'
   have e1:(fl.alloc (.cells #[LJ 6,U7,LJ 0,LJ (s.size:Int)] 167)).cell? (LD 1 1)=some (LJ (-1)):=by rw[zalbi _ _ _ hlt0];exact bZ
   clear mW kw kx nf ng;refine wt 0 v ?_;refine wt 1 (LQ s) ?_;refine wt 2 (LJ (s.size:Int)) ?_;refine wt 3 (.agg #[LJ 6,U7,LJ 0,LJ (s.size:Int)]) ?_;refine zalff (rs:=[4,6]) Nw MP ?_;refine zaldq rfl (λfk io=>?_) (zaldq rfl (λfk io=>?_) zalfa)
   ·go_simp;refine io _ _ ?_;clear io fk;refine zalff (rs:=[5,6]) Nw MP ?_;refine zaldq rfl (λfk io=>?_) (zaldq rfl (λfk io=>?_) zalfa)
    ·have A{G}(h:G:=by
     refine wt 7 (.slice (some (LD g 0)) (au.length+1) cap) ?_;refine zalff (rs:=[6]) Nw MP ?_;refine zaldq rfl (λfk io=>?_) zalfa;go_simp;refine io _ _ ?_;clear io fk;exact aC7):=LG h;exact aAh
    ·go_simp;exact aDQ
   ·go_simp;refine io _ _ ?_;clear io fk;refine zalff (rs:=[4]) Nw MP ?_;refine zaldq rfl (λfk io=>?_) zalfa;go_simp;exact aDQ
def aoC {aj:List LW}{x:LW}(h:isIn aj x=true):x ∈ aj:=by
 unfold isIn at h;simp only[zaldd,zalbz] at h;obtain⟨y,hy,he⟩:=h;have E:y=x:=Classical.byContradiction λd'=>by
  have O:=Wv d';rw[he] at O;simp at O
 exact E ▸ hy
def aoD {aj bi:List LW}{s:LW}{k:Nat}{kd n:Int}{tx:LW}{e:Nat}(h:Oe aj bi s k=.tok kd tx n e):(kd=2->tx ∈ aj)/\(kd=5->tx ∈ bi):=by
 unfold Oe at h
 split at h
 ·unfold QG at h
  split at h
  ·rename_i ak
   cases h;exact⟨λ_=>aoC ak,λh=>absurd h MK⟩
  ·exact atL
 ·split at h
  ·unfold rdNum at h
   split at h
   ·
    cases h
   ·split at h
    ·
     cases h
    ·exact atL
  ·split at h
   ·unfold rdStr at h
    split at h
    ·exact atL
    ·
     cases h
   ·unfold RG at h
    split at h
    ·rename_i g hg
     cases h;exact⟨λh=>absurd h MK,λ_=>zalbc hg⟩
    ·
     cases h
def aoE {aj bi:List LW}{s:LW}{k:Nat}{er:Int}{p:Nat}(h:Oe aj bi s k=.bad er p):er≠0:=by
 unfold Oe at h
 split at h
 ·unfold QG at h
  split at h
  ·
   cases h
  ·split at h
   ·
    cases h;decide
   ·
    cases h
 ·split at h
  ·unfold rdNum at h
   split at h
   ·
    cases h;decide
   ·split at h
    ·
     cases h;decide
    ·split at h
     ·
      cases h;decide
     ·
      cases h
  ·split at h
   ·unfold rdStr at h
    split at h
    ·split at h
     ·
      cases h;decide
     ·
      cases h
    ·
     cases h;decide
   ·unfold RG at h
    split at h
    ·
     cases h
    ·
     cases h;decide
section
variable (aj bi:List LW) (s:LW) (hQ:∀ g ∈ bi,1<=g.size)
include aj bi s hQ
def arJ:∀ m i au l,s.size - i=m->i<=s.size->(∀ t ∈ au,(t.kd=2->t.tx ∈ aj)/\(t.kd=5->t.tx ∈ bi))->Pn aj bi s i au=.ok l ->
  ∀ t ∈ l,(t.kd=2->t.tx ∈ aj)/\(t.kd=5->t.tx ∈ bi):=by
 intro m
 induction m using Nat.strongRecOn with
 | ind m aU=>
  intro i au l aA ak aa h
  by_cases aC:i<s.size
  ·
   cases T:Oe aj bi s i with
   | bad er p=>rw[Tc aj bi s i au er p aC T] at h;cases h
   | tok kd tx n e=>
    have A{G}(h:G:=by
    refine aU (s.size - MH O8 s e) LM (MH O8 s e) _ l rfl dE ?_ h;intro t aH
    rcases zalat.1 aH with E|E
    ·exact aa t E
    ·rw[zalaf.1 E];exact aoD T):=LG h;exact auw
  ·rw[UG aj bi s i au aC] at h;cases h;intro t aH
   rcases zalat.1 aH with E|E
   ·exact aa t E
   ·rw[zalaf.1 E];exact⟨λh=>absurd (show (6:Int)=2 from h) MK,λh=>absurd (show (6:Int)=5 from h) MK⟩
def arK:∀ m i au er p,s.size - i=m->i<=s.size->Pn aj bi s i au=.bad er p->er≠0:=by
 intro m
 induction m using Nat.strongRecOn with
 | ind m aU=>
  intro i au er p aA ak h
  by_cases aC:i<s.size
  ·
   cases T:Oe aj bi s i with
   | bad F7 iC=>
    rw[Tc aj bi s i au F7 iC aC T] at h;cases h;exact aoE T
   | tok kd tx n e=>
    have A{G}(h:G:=by
    exact aU (s.size - MH O8 s e) LM (MH O8 s e) _ er p rfl dE h):=LG h;exact auw
  ·rw[UG aj bi s i au aC] at h;cases h
end
def ada {aj bi:List LW}{s:LW}{l:List Tk}(hQ:∀ g ∈ bi,1<=g.size)(c6:∀ x ∈ aj,SA 2 x=none)(j0:∀ g ∈ bi,g≠tPM)(h:Pn aj bi s (MH O8 s 0) []=.ok l):aEx l/\aEy l:=by
 have aa:=arJ aj bi s hQ _ _ [] l rfl (QV O8 s 0 (zalae _)) (λ_ h=>absurd h MP) h;have aA:∀ i,(MJ l i).kd=6\/MJ l i ∈ l:=by
  intro i;unfold MJ;rw[zalay]
  by_cases ak:i<l.length
  ·rw[zalai ak];exact zalal (zalao ak)
  ·rw[List.getElem?_eq_none LM];exact zalad rfl
 refine⟨λi O=>?_,λi bw=>?_⟩
 ·rcases aA i with h6|hmem
  ·rw[h6] at O;exact absurd O MK
  ·exact c6 _ ((aa _ hmem).1 O)
 ·rcases aA i with h6|hmem
  ·rw[h6] at bw;exact absurd bw MK
  ·exact j0 _ ((aa _ hmem).2 bw)
def Tt (aj:List LW)(s:LW):PaR:=
 match Pn aj ML s (MH O8 s 0) [] with
 | .bad er p=>.at er p
 | .ok l=>match PZ l (TJ l KK) with
  | .bad er p=>.at er p
  | .ok t _=>if 1500<t.count then .bare else .ok t
  | .out=>.bare
def agT {l:List Tk}(a3:Ends l)(aJ:0<l.length)(ab:l.length<=3001):PZ l (TJ l KK)≠.out/\∀ t j,PZ l (TJ l KK)=.ok t j->j<l.length:=by
 have ai:=aeu a3 KK;have GZ:(TJ l KK).fuel=24099:=rfl;have k4:=ZI ai (by unfold KK;omega) (TJ l KK).fuel [] 0 aJ (by rw[GZ];omega)
 have aC:=ZJ ai (TJ l KK).fuel [] 0;unfold PZ
 cases T:Oa l (TJ l KK) (TJ l KK).fuel [] 0 with
 | out=>exact absurd T k4
 | bad er p=>exact⟨by nofun,λt j h=>by cases h⟩
 | ok ts j=>exact⟨by nofun,λt a8 h=>by cases h;exact aC ts j aJ T⟩
def Zx {aj bi:List LW}{s:LW}{t:Tr}(hg:bi=ML)(W:s.size<=3000)(hQ:∀ g ∈ bi,1<=g.size)(c6:∀ x ∈ aj,SA 2 x=none)(j0:∀ g ∈ bi,g≠tPM)(h:Tt aj s=.ok t):UM aj bi s=.ok t:=by
 subst hg;unfold Tt at h;unfold UM;rw[zalah LM]
 cases ab:Pn aj ML s (MH O8 s 0) [] with
 | bad er p=>rw[ab] at h;cases h
 | ok l=>
  rw[ab] at h;simp only at h ⊢;have a3:=Zm hQ ab;have aN:=ada hQ c6 j0 ab;have ce:=Wh a3.1 a3.2.1 LM
  cases ae:PZ l (TJ l KK) with
  | out=>rw[ae] at h;cases h
  | bad er p=>rw[ae] at h;cases h
  | ok gl j=>
   rw[ae] at h;simp only at h
   rcases ac9 aN.1 aN.2 KK KK gl j ae with O|O
   ·rw[O];exact h
   ·exact absurd O ce.1
def ajj {B:Nat}{w:LK}{g n cap:Nat}{ps:List Nat}(h:w.ownsRow B 22 1 (.slice (some (LD g 0)) n cap) n (ps.map LC)):∀ j u,(ps.map LC)[j]? = some u->w.cell? (((LD g 0):Addr).add j)=some u:=ayF
def ar6:∀ (m:Nat) (t:Tr),t.count<=m->∀ (p:Nat) (w:LK),Nj (λ_=>True) w t p->t.count<=100000 ->
  MC 25 #[LC p] w λe w'=>(∃ (v:LY) (bf:List Nat),e=MN v/\w'.ownsRow w.heap.size 22 1 v t.count (bf.map LC))/\LX w w':=by
 intro m
 induction m with
 | zero=>
  exact anP
 | succ m aU=>
  intro t aH p w hT eO;obtain⟨a6,b4,bL,bM,bP⟩:=zalbl info22;obtain⟨u,ps,hblk,hrow,hG,bd⟩:=hT.WT;have hlen:=LU.length _ _ bd;have A{G}(h:G:=by
  obtain⟨_,_,_,dR,_⟩:=node_cells hblk;obtain⟨eq,uc,aS⟩:=NH hrow;subst aS;rw[hlen] at dR;have bF:=lt_of_heap hblk;have kH:=hide bd;have fa:=hide hrow;have A{G}(h:G:=by
  have HLEN:=hide hlen;clear hG aU g6 aH eO hblk hlen;go_enter func25,ntmps25;go_wp2_with fail
  go_loopw [3,15] (λo i wr=>∃ (k:Nat) (bf:List Nat),k<=t.kids.length/\i=LJ k/\wr.ownsRow w.heap.size 22 1 o (1+Tr.counts (t.kids.take k)) (bf.map LC)/\LX w wr) (λ_ i _=>t.kids.length - (intOf i).toNat)
  case atStart=>exact⟨0,[p],zalae _,rfl,by simpa[MQ] using aar w p Nh,Qn⟩
  case round=>
   obtain⟨k,bf,N,rfl,hown,hbel⟩:=hrel;have HOWN:=hide hown;have cZ:=hide hbel;obtain⟨aQ,cc,rfl⟩:=NH hown
   by_cases aC:k<t.kids.length
   ·obtain⟨g,cap,a0,hcell⟩:=OB fa.out (by have:=Lu HLEN;omega)
    have A{G}(h:G:=by
    obtain⟨iu,mq⟩:=LU.get _ _ kH.out k aC;have de:g<w.heap.size:=(Me fa.out g rfl).1;have dU:wr.cell? (LD g k)=some (LC ps[k]):=by
     rw[cZ.out.cell (p:=(LD g k)) de];exact hcell k iu
    have oa:Nj (λ_=>True) wr t.kids[k] ps[k]:=Nj.later (λx _ ab=>cZ.out.block x ab) _ _ mq;have dE:=TU t.kids k aC;have jh:=S9 t.kids k aC;have E:=Lu lr;have O:=Lu re;have ao:=Lu hX;have A{G}(h:G:=by
    have ag:=hide (i4.out t.kids[k] LM ps[k] wr oa LM);have co:=hide jh;have A{G}(h:G:=by
    have tB:=Xq t.kids[k]
    generalize gv:(t.kids[k]).count=i8 at ag co htot tB
    generalize Hz:Tr.counts (t.kids.take k)=zz at HOWN co htot
    have lK:zz+i8<=100000:=LM;clear hcell dE jh E O ao htot ac gv Hz;go_wp2_with fail;refine NJ ?_;rintro e w2 ⟨⟨v,sp,rfl,hown2⟩,a5⟩;have oM:Hid (w2.ownsRow w.heap.size 22 1 (.slice aQ (1+zz) cc) (1+zz) (bf.map LC)):=L8 (I:=λ_=>True) (λb _ ab=>a5.block b ab) (λ_ _=>trivial) HOWN.out;obtain⟨dn,cap2,rfl,jc,yu⟩:=hown2.form LM;have A{G}(h:G:=by
    go_wp2_with (at_builtin;refine wpList_append_lies _ rfl _ _ 46 rfl w.heap.size 22 a6 Pe 1 8 zalbk b4 bL bM bP rfl MK _ _ _ rfl oM.out (LD dn 0) i8 cap2 (sp.map LC) rfl w4.out.1 (ajj w4.out) (abE sp) LM (by unfold maxLen;omega) LM hz2' w2.heap.size rfl ?_)
    have A{G}(h:G:=by
    go_roundw
    case measure=>simp[intOf];omega
    case rel=>exact⟨k+1,bf++sp,by omega,by push_cast;rfl,by rw[co.out,zalam,<-zalen];exact h2.out,bV.out⟩):=LG h;exact aCg):=LG h;exact aBx):=LG h;exact atz):=LG h;exact aqe):=LG h;exact Tf
   ·have cA:k=t.kids.length:=LM;subst cA;have eY:¬ ((t.kids.length:Int)<(t.kids.length:Int)):=LM;have aG:Hid (wr.ownsRow w.heap.size 22 1 (.slice aQ (1+Tr.counts (t.kids.take t.kids.length)) cc) t.count (bf.map LC)):=by
     have E:=Lu lr;have O:=Lu HOWN;rw[zalaq] at O ⊢;rw[E];exact O
    go_wp2;go_ret;exact⟨⟨_,rfl,bf,by have h:=Lu aG;rw[zalaq] at h;exact h⟩,cZ.out⟩):=LG h;exact aqg):=LG h;exact adW
def XO (r:PaR)(w:LK)(e:Ending)(w':LK):Prop:=
 match r with
 | .ok t=>∃ p,e=MN (.tuple #[LC p,.agg #[LJ 0,LJ (-1)]])/\Nj (From w.heap.size) w' t p/\LX w w'
 | _=>∃ er pl:Int,er≠0/\e=MN (.tuple #[.pointer none,.agg #[LJ er,LJ pl]])/\LX w w'
def ajg {r:PaR}{w w':LK}{er pl:Int}(T:∀ t,r≠.ok t)(he:er≠0)(D:LX w w'):XO r w (MN (.tuple #[Pe,.agg #[LJ er,LJ pl]])) w':=by
 cases r with
 | ok t=>exact absurd rfl (T t)
 | bare=>exact⟨er,pl,he,rfl,D⟩
 | «at» a b=>exact⟨er,pl,he,rfl,D⟩
section
variable {w1:LK} {R:Nat} {x y:LY} (a b:LY)
include w1 R x y a b
def YP (D:w1.heap[R]? = some (NK #[x,y] 86)):((w1.setCell (LD R 0) a).setCell (LD R 1) b).heap[R]? = some (NK #[a,b] 86):=by
 have E:(w1.setCell (LD R 0) a).heap[R]? = some (NK #[a,y] 86):=by rw[heap_set D];rfl
 rw[heap_set E];rfl
def amR (o:Obj)(D:w1.heap[R]? = some (NK #[x,y] 86)):(((w1.setCell (LD R 0) a).setCell (LD R 1) b).alloc o).cell? (LD R 0)=some a/\(((w1.setCell (LD R 0) a).setCell (LD R 1) b).alloc o).cell? (LD R 1)=some b:=by
 have h:=(zalaa _ o _ (lt_of_heap (YP a b D))).trans (YP a b D);exact⟨by rw[cell_of h];rfl,by rw[cell_of h];rfl⟩
end
def ahu (aj:List LW)(s:LW)(w:LK)(er:Int)(p:Nat)(he:er≠0)(T:∀ t,Tt aj s≠.ok t)(bm:Om aj w)(ce:∀ L,Om aj L->MC 109 #[LQ s] L (ahb (.bad er p) L)):MC 46 #[LQ s] w (XO (Tt aj s) w):=by
 have tj:LX w (w.alloc (.cells #[LJ 0,LJ 0] 86)):=Qn;have ag:=hide (ce _ (bm.later tj));have hI:=hide tj;have bo:=hide T;have d9:(er != 0)=true:=zaleg.2 he;clear ce T;go_enter func46,ntmps46;go_wp2_with fail;refine NJ ?_;rintro e w1 ⟨rfl,D⟩;have hW:w1.heap[w.heap.size]? = some (NK #[LJ 0,LJ 0] 86):=(D.block _ MP).trans (LP _ _);have lV:w1.cell? (LD w.heap.size 0)=some (LJ 0):=by rw[cell_of hW];rfl
 have e8:w1.cell? (LD w.heap.size 1)=some (LJ 0):=by rw[cell_of hW];rfl
 have j5:=Ny hW;have nf:=j5 0;have ng:=j5 1;have jG:=lt_of_heap hW;obtain⟨cn,bC⟩:=amR (LJ er) (LJ (p:Int)) (.cells #[LJ er,LJ (p:Int)] 86) hW;have aV:=hide (hI.out.trans (D.mono MP));clear hW;go_wp2_with fail;refine zln ?_;refine wt 1 Pe ?_;refine O7 0 λK U=>?_;go_simp;refine Qd ?_;clear U K;refine O7 2 λK U=>?_;go_simp;refine Qd ?_;clear U K;refine aad ?_
 go_wp2
 exact zalcs (v:=.tuple #[Pe,.agg #[LJ er,LJ (p:Int)]]) (by simp[results,results46,go_sem,cn,bC]) rfl (ajg bo.out he ((((aV.out.setCell (p:=(LD w.heap.size 0)) Nh _).setCell (p:=(LD w.heap.size 1)) Nh _).alloc OM _).drew))
def amS:PR Tr->PaR
 | .ok t _=>if 1500<t.count then .bare else .ok t
 | .bad er p=>.at er p
 | .out=>.bare
structure Pgm (c:PC)(fP:LK)(aR:Nat)(au:List Tr)(u:LY)(bf:List Nat)(j:Nat)(L:LK):Prop where
 ps:Ps c L j 0 (-1)
 op:Open aR L (.mk 1 LH 0 au) aR u bf
 ap:Ap c.P aR fP L
structure ahv (c:PC)(fP:LK)(aR:Nat)(er pl:Int)(j:Nat)(L:LK):Prop where
 ps:Ps c L j er pl
 ap:Ap c.P aR fP L
structure POk (c:PC)(fP:LK)(aR Z:Nat)(au:List Tr)(u:LY)(bf:List Nat)(x:Tr)(j:Nat)(ax:LK)(bu:Nat):Prop where
 pg:Pgm c fP aR au u bf j ax
 nd:LU (λb=>Z<=b) ax [x] [bu]
 kb:LU (λb=>(aR<=b/\b≠aR/\u.ownBlock≠some b)/\b<Z) ax au bf
structure av1 (c:PC)(fP:LK)(aR:Nat)(au:List Tr)(u:LY)(bf:List Nat)(er pl:Int)(ax:LK)(bu:Nat):Prop where
 pg:∃ j,ahv c fP aR er pl j ax
 op:Open aR ax (.mk 1 LH 0 au) aR u bf
 he:er≠0
def Open.kv {B:Nat}{w:LK}{t:Tr}{p:Nat}{u:LY}{ps:List Nat}(h:Open B w t p u ps):KV B w t.kids u:=⟨ps,h.row,LU.mono (λ_ D _=>⟨D.1,D.2.2⟩) _ _ h.kids⟩
def ar5 {w2:LK}{l:List Tk}{g cap P:Nat}{cj:Array LY}(fT:w2.heap.size=P)(a3:Ends l)(aJ:0<l.length)(ab:l.length<=3001)(a2:w2.heap[g]? = some (NK cj 167))(E:l.length<=cap)(O:cap<=maxLen)(ao:cj.size=cap * 4)(aM:cj.toList.take (l.length * 4)=OI l) :
  Pgm ⟨P,l,g,cap,P+1⟩ (w2.alloc (.cells #[.slice (some (LD g 0)) l.length cap,LJ 0,LJ 0,LJ (-1)] 166)) (P+1) [] QJ [] 0 ((w2.alloc (.cells #[.slice (some (LD g 0)) l.length cap,LJ 0,LJ 0,LJ (-1)] 166)).alloc (MB 1 LH 0 QJ)):=by
 subst fT;have hg:=lt_of_heap a2;refine⟨⟨⟨a3,⟨cj,?_,E,O,ao,aM⟩,?_,ab,⟨?_,?_⟩,?_⟩,?_,aJ⟩,⟨Nh,?_,YO,by nofun,LU.nil⟩,?_⟩
 ·show ((w2.alloc _).alloc _).heap[g]? = _
  rw[zalaa _ _ _ OM,zalaa _ _ _ hg];exact a2
 ·show g≠w2.heap.size
  omega
 ·show g<w2.heap.size+1
  omega
 ·show w2.heap.size<w2.heap.size+1
  omega
 ·show w2.heap.size+1<=_
  simp
 ·show ((w2.alloc _).alloc _).heap[w2.heap.size]? = _
  rw[zalaa _ _ _ MP,LP];rfl
 ·show _=some (MB 1 LH 0 QJ)
  have h:=LP (w2.alloc (.cells #[.slice (some (LD g 0)) l.length cap,LJ 0,LJ 0,LJ (-1)] 166)) (MB 1 LH 0 QJ);simpa using h
 ·exact(Ap.refl _ _ _).alloc MP _
def Open.text {B aR:Nat}{w:LK}{kd n:Int}{tx:LW}{ts:List Tr}{u:LY}{ps:List Nat}(h:Open B w (.mk kd tx n ts) aR u ps)(x:LW):Open B (w.setCell (LD aR 1) (LQ x)) (.mk kd x n ts) aR u ps:=by
 have D:∀ b,b≠aR->(w.setCell (LD aR 1) (LQ x)).heap[b]? = w.heap[b]?:=λb D=>zalap _ _ _ b D;refine⟨h.low,by rw[heap_set h.blk];rfl,?_,h.own,?_⟩
 ·exact L8 (I:=λb=>b≠aR) (λb E _=>D b E) (λg hg e=>h.own (by rw[hg,e])) h.row
 ·exact LU.later (λb E _=>D b E.2.1) _ _ h.kids
def Pgm.later {c:PC}{fP:LK}{aR:Nat}{au:List Tr}{u:LY}{bf:List Nat}{j:Nat}{L bJ:LK}(h:Pgm c fP aR au u bf j L)(fT:c.P<aR)(D:LX L bJ):Pgm c fP aR au u bf j bJ:=
 ⟨h.ps.later D,h.op.stay (Ap.of D) fT,h.ap.trans ((Ap.of D).mono (nLz (lt_of_heap h.op.blk)))⟩
def ahv.later {c:PC}{fP:LK}{aR:Nat}{er pl:Int}{j:Nat}{L bJ:LK}(h:ahv c fP aR er pl j L)(aN:aR<=L.heap.size)(D:LX L bJ):ahv c fP aR er pl j bJ:=
 ⟨h.ps.later D,h.ap.trans ((Ap.of D).mono aN)⟩
def adp {w w1 fP L:LK}{P aR:Nat}(D:LX w w1)(E:LX w1 fP)(aa:Ap P aR fP L)(fT:w1.heap.size<=P)(aN:P<=aR):LX w L:=
 D.trans (((E.trans ((aa.mono (zalan fT aN)).below fT))).mono D.size)
def ae9 (n:Int)(w:LK):MC 59 #[LJ n] w λe w'=>e=MN (.agg #[LJ n,LJ (-1)])/\LX w w':=by
 go_enter func59,ntmps59;go_wp2_with fail;have cn:((w.alloc (.cells #[LJ 0,LJ 0] 86)).setCell (LD w.heap.size 0) (LJ n)).heap[w.heap.size]? = some (NK #[LJ n,LJ 0] 86):=by rw[heap_set (LP _ _)];rfl
 exact Ug (v:=.agg #[LJ n,LJ (-1)]) ⟨rfl,Qn⟩
def ahw (s:LW)(w:LK)(l:List Tk)(F:OQ)(r:PR Tr)(a3:Ends l)(aJ:0<l.length)(ab:l.length<=3001)(aj:List LW)(bm:Om aj w)(ce:∀ L,Om aj L->MC 109 #[LQ s] L (ahb (.ok l) L))
  (ai:∀ c:PC,c.l=l->ZW c F) (aN:∃ k,VW l k F) (U:ZK F) (W:r=PZ l F) (ay:r≠.out) (am:∀ t j,r=.ok t j->t.count<=90000) :
  MC 46 #[LQ s] w (XO (amS r) w):=by
 obtain⟨a6,b4,bL,bM,bP⟩:=zalbl info22;have f0:=bm.f0;have f1:=bm.f1;have tj:LX w (w.alloc (.cells #[LJ 0,LJ 0] 86)):=Qn;have ag:=hide (ce _ (bm.later tj));have hI:=hide tj;have bN:=hide ai;have gV:=hide aN;have oK:=hide U;have bb:=hide ay;have lf:=hide am;have hlt0:1<w.heap.size:=RH f0;unfold PZ at W;have aF:=hide W;obtain⟨Q,c'⟩:∃ Q,Q=XO (amS r) w:=⟨_,rfl⟩;rw[<-c'];have aG:=hide c';clear ce ai aN U W ay am c';go_enter func46,ntmps46;go_wp2_with fail;refine NJ ?_
 rintro e w1 ⟨v,rfl,hown,bz⟩
 rcases hown.2 with av|⟨g,cap,cj,rfl,hg,a2,E,O,ao,aM⟩
 ·omega
 have gI:=hI.out.trans (bz.mono MP);have hW:w1.heap[w.heap.size]? = some (NK #[LJ 0,LJ 0] 86):=(bz.block _ MP).trans (LP _ _);have de:=lt_of_heap a2;have kL:=hide (ar5 (P:=w1.heap.size+1) (w2:=w1.alloc (.cells #[LJ 0,LJ (-1)] 86)) MP a3 aJ ab ((zalaa _ _ _ de).trans a2) E O ao aM);have dH:w1.cell? (LD 1 0)=some (LJ 0):=by rw[zalar (w:=w) (gI.block 1 hlt0)];exact f0
 have aW:w1.cell? (LD 1 1)=some (LJ (-1)):=by rw[zalar (w:=w) (gI.block 1 hlt0)];exact f1
 have hlt1:1<w1.heap.size:=RH dH;have ba:=hide gI;have mI:=hide hW;have jG:=lt_of_heap hW;have FE:=hide f0;have FF:=hide f1;clear a2 E O ao aM f0 f1 hW;go_wp2_with fail;obtain⟨c,gv⟩:∃ c:PC,c=(⟨w1.heap.size+1,l,g,cap,w1.heap.size+1+1⟩:PC):=⟨_,rfl⟩;have Bi:c.P=w1.heap.size+1:=by rw[gv]
 have cl:c.l=l:=by rw[gv]
 have Bp:c.tb=g:=by rw[gv]
 have Bj:c.cap=cap:=by rw[gv]
 have Bk:c.lo=w1.heap.size+1+1:=by rw[gv]
 have cD:=kL;rw[<-gv] at cD;have ii:=hide Bi;have p6:=hide cl;have xl:=hide Bp;have FD:=hide Bj;have A0:=hide Bk;clear gv Bi cl Bp Bj Bk
 go_loopg [] F.fuel (λk wr=>(∃ au j u bf,(Oa l F k au j).bind (λts i=>PR.ok (Qg (.mk 1 LH 0 ts)) i)=r/\Pgm c ((w1.alloc (.cells #[LJ 0,LJ (-1)] 86)).alloc (.cells #[.slice (some (LD g 0)) l.length cap,LJ 0,LJ 0,LJ (-1)] 166)) (w1.heap.size+1+1) au u bf j wr/\au.length<=j/\(∀ t ∈ au,t.kd=15->∃ x y,t.kids=x::y))\/(∃ er pl j,r=.bad er pl/\er≠0/\ahv c ((w1.alloc (.cells #[LJ 0,LJ (-1)] 86)).alloc (.cells #[.slice (some (LD g 0)) l.length cap,LJ 0,LJ 0,LJ (-1)] 166)) (w1.heap.size+1+1) er (pl:Int) j wr))
 case atStart=>exact zalad ⟨[],0,_,_,aF.out.symm,cD.out,zalae _,by simp⟩
 case round=>
  clear dH aW
  rcases hrel with ⟨au,j,u,bf,ac,ms,dE,hall⟩|⟨er,pl,j,ac,he,ms⟩
  ·obtain⟨k,rfl⟩:∃ k,gk=k+1:=aqF
   have nG:=hide ms;have nq:=hide hall;have hj:j<l.length:=by have h:=ms.ps.lt;rw[p6.out] at h;exact h
   have mB:=ms.ps.c0;rw[ii.out,xl.out,p6.out,FD.out] at mB;have dg:=ms.ps.c1;rw[ii.out] at dg;have a7:=ms.ps.SB;rw[ii.out] at a7;have o0:=ms.ps.base.tlt;rw[xl.out] at o0;have k0:=ms.ps.toks.1;rw[xl.out,p6.out] at k0;have aC:(j:Int)<(l.length:Int):=LM;have eU:=Q9 ms.ps.drew;unfold NW at eU;rw[ii.out] at eU;have es:=hide eU;clear eU
   by_cases af:(MJ l j).kd=6
   ·have lm:Hid (r=.ok (.mk 1 (PY au) 0 au) j):=by
     have E:=ac;unfold Oa at E;rw[zalak af,bind_ok,ZX] at E;exact E.symm
    have cR:((MJ l j).kd != 6)=false:=by rw[af];rfl
    clear ac hall af;have A{G}(h:G:=by
    refine wg 14 (L9 false) rfl (zalad ⟨by kernel_rfl,λL aO=>by cases aO;go_simp⟩) rfl ?_
    refine wg 15 (L9 false) rfl (zalad ⟨by kernel_rfl,λL aO=>by cases aO;go_simp⟩) rfl ?_
    refine XY ?_;go_wp2_with fail;have A{G}(h:G:=by
    have mb:=hide (nG.out.later jC O4.drew);have db:=Q9 mb.out.ps;unfold NW at db;rw[ii.out] at db;have b9:=hide db;clear mB dg k0;refine Ul ?_;rintro e w2 ⟨rfl,rfl⟩;have gu:=(node_cells mb.out.op.blk).2.2.2.1;have ja:=(node_cells mb.out.op.blk).2.2.2.2;have eU:=(node_cells mb.out.op.blk).2.1;have GR:=ja 1;have ed:=lt_of_heap mb.out.op.blk;obtain⟨eq,uc,ji⟩:=mb.out.op.shape;subst ji;have cK:=hide (abI mb.out.op.kv nq.out (by show au.length<=100000;omega))
    go_wp2_with fail;refine WB ?_;rintro e w2 ⟨rfl,rfl⟩;have Aq:=hide (mb.out.op.text (PY au));have nr:Hid (Ap c.P (w1.heap.size+1+1) ((w1.alloc (.cells #[LJ 0,LJ (-1)] 86)).alloc (.cells #[.slice (some (LD g 0)) l.length cap,LJ 0,LJ 0,LJ (-1)] 166)) (wr.drew.setCell (LD ((w1.heap.size+1+1)) 1) (LQ (PY au)))):=mb.out.ap.setCell (p:=(LD ((w1.heap.size+1+1)) 1)) (zalad Nh) _;have hcnt:=Lu lf _ _ lm.out
    have ft:=hide (ar6 _ (.mk 1 (PY au) 0 au) Nh (w1.heap.size+1+1) _ (Nj.mono (λ_ _ _=>trivial) _ _ (YC Aq.out.nv)) LM);go_wp2_with fail;refine Yi ?_;rintro e bn ⟨⟨Lg,zA,rfl,hown5⟩,ec⟩;obtain⟨va,ck,rfl⟩:=NH hown5;have eg:Hid (Ap c.P (w1.heap.size+1+1) ((w1.alloc (.cells #[LJ 0,LJ (-1)] 86)).alloc (.cells #[.slice (some (LD g 0)) l.length cap,LJ 0,LJ 0,LJ (-1)] 166)) bn):=nr.out.trans ((Ap.of ec).mono OM);have kJ:=hide (Nj.later (λb _ ab=>ec.block b ab) _ _ (YC Aq.out.nv));clear eU gu ja GR ed
    have gt:LX w bn:=adp ba.out ve.out eg.out (by rw[ii.out];omega) (by rw[ii.out];omega)
    have j4:(bn).heap[w.heap.size]? = some (NK #[LJ 0,LJ 0] 86):=(eg.out.block w.heap.size LM (by rw[ii.out];omega)).trans ((ve.out.block w.heap.size jG).trans mI.out)
    have lV:(bn).cell? (LD w.heap.size 0)=some (LJ 0):=by rw[cell_of j4];rfl
    have e8:(bn).cell? (LD w.heap.size 1)=some (LJ 0):=by rw[cell_of j4];rfl
    have j5:=Ny j4;have nf:=j5 0;have ng:=j5 1;have gf:=lt_of_heap j4;obtain⟨n,av⟩:∃ n,n=(Tr.mk 1 (PY au) 0 au).count:=⟨_,rfl⟩;rw[<-av] at hcnt ⊢
    by_cases hlim:1500<n
    ·have sA:=hide (ae9 4 bn);have bo:Hid (∀ t,amS r≠.ok t):=by
      intro t;rw[lm.out]
      show (if 1500<(Tr.mk 1 (PY au) 0 au).count then PaR.bare else PaR.ok _)≠PaR.ok t
      rw[<-av,zalak hlim]
      nofun
     have hR:decide ((1500:Int)<(n:Int))=true:=zalaz LM;go_wp2_with fail;refine cm sA.out ?_;rintro e cM ⟨rfl,eT⟩;have GP:LX w cM:=gt.trans (eT.mono LM);have sq:=(eT.block _ gf).trans j4;have gP:cM.cell? (LD w.heap.size 0)=some (LJ 0):=by rw[cell_of sq];rfl
     have iX:cM.cell? (LD w.heap.size 1)=some (LJ 0):=by rw[cell_of sq];rfl
     have lb:=Ny sq;have K3:=lb 0;have K4:=lb 1;have r':=lt_of_heap sq;have jn:=YP (LJ 4) (LJ (-1)) sq;have cn:((cM.setCell (LD w.heap.size 0) (LJ 4)).setCell (LD w.heap.size 1) (LJ (-1))).cell? (LD w.heap.size 0)=some (LJ 4):=by rw[cell_of jn];rfl
     have bC:((cM.setCell (LD w.heap.size 0) (LJ 4)).setCell (LD w.heap.size 1) (LJ (-1))).cell? (LD w.heap.size 1)=some (LJ (-1)):=by rw[cell_of jn];rfl
     clear sq j4 lV e8 j5 nf ng jn;go_wp2_with fail;exact zalcs (v:=.tuple #[Pe,.agg #[LJ 4,LJ (-1)]]) (by simp[results,results46,go_sem,cn,bC]) rfl (by rw[aG.out];exact ajg bo.out MK (((GP.setCell (p:=(LD w.heap.size 0)) Nh _).setCell (p:=(LD w.heap.size 1)) Nh _)))
    ·have hR:decide ((1500:Int)<(n:Int))=false:=zalaw LM;have bo:Hid (amS r=.ok (.mk 1 (PY au) 0 au)):=by
      rw[lm.out]
      show (if 1500<(Tr.mk 1 (PY au) 0 au).count then PaR.bare else PaR.ok _)=_
      rw[<-av,zalah hlim]
     have kA:bn.cell? (LD 1 0)=some (LJ 0):=by rw[zalar (w:=w) (gt.block 1 hlt0)];exact Lu FE
     have le:bn.cell? (LD 1 1)=some (LJ (-1)):=by rw[zalar (w:=w) (gt.block 1 hlt0)];exact Lu FF
     go_wp2_with fail;have jn:=YP (LJ 0) (LJ (-1)) j4;have cn:((bn.setCell (LD w.heap.size 0) (LJ 0)).setCell (LD w.heap.size 1) (LJ (-1))).cell? (LD w.heap.size 0)=some (LJ 0):=by rw[cell_of jn];rfl
     have bC:((bn.setCell (LD w.heap.size 0) (LJ 0)).setCell (LD w.heap.size 1) (LJ (-1))).cell? (LD w.heap.size 1)=some (LJ (-1)):=by rw[cell_of jn];rfl
     clear jn j4;refine zln ?_;refine wt 0 (LC (w1.heap.size+1+1)) ?_;refine wt 2 (LC (w1.heap.size+1+1)) ?_;refine O7 1 λK U=>?_;go_simp;refine Qd ?_;clear U K;refine O7 3 λK U=>?_;go_simp;refine Qd ?_;clear U K;refine aad ?_
     go_wp2
     refine zalcs (v:=.tuple #[LC (w1.heap.size+1+1),.agg #[LJ 0,LJ (-1)]]) (by simp[results,results46,go_sem,cn,bC]) rfl ?_;rw[aG.out,bo.out];have hlow:∀ b,w1.heap.size+1+1<=b->b≠w.heap.size:=λb D e=>by omega
     refine⟨_,rfl,Nj.mono (λb D _=>by have E:w1.heap.size+1+1<=b:=D;show w.heap.size<=b;omega) _ _ (Nj.later (I:=λb=>w1.heap.size+1+1<=b) (λb D _=>?_) _ _ kJ.out),?_⟩
     ·show ((bn.setCell (LD w.heap.size 0) (LJ 0)).setCell (LD w.heap.size 1) (LJ (-1))).heap[b]? = _
      rw[zalap _ (LD w.heap.size 1) _ b (hlow b D),zalap _ (LD w.heap.size 0) _ b (hlow b D)]
     ·exact((((gt.setCell (p:=(LD w.heap.size 0)) Nh _).setCell (p:=(LD w.heap.size 1)) Nh _))).drew):=LG h;exact aBg):=LG h;exact zsu
   ·have lm:Hid ((MO l F.st 0 j).bind (λt az=>(Oa l F k (au++[t]) az).bind λts i=>PR.ok (Qg (.mk 1 LH 0 ts)) i)=r):=by
     have E:=ac;unfold Oa at E;rw[zalah af] at E;rw[<-E]
     cases MO l F.st 0 j <;> rfl
    have cR:((MJ l j).kd != 6)=true:=zaleg.2 af;clear ac hall af
    cases T:MO l F.st 0 j with
    | out=>rw[T] at lm;exact absurd lm.out.symm bb.out
    | bad er pl=>
     have dv:=hide T;rw[T] at lm;have xd:Hid (r=.bad er pl):=lm.out.symm;clear T;have A{G}(h:G:=by
     have A{G}(h:G:=by
     have f7:=(Lu bN c p6.out).st wr.drew.drew 0 j (.bad er pl) LM ((zaldg (λl=>MO l F.st 0 j) p6.out).trans dv.out).symm (by nofun) hs.out.ps;have A{G}(h:G:=by
     refine WG (H:=av1 c ((w1.alloc (.cells #[LJ 0,LJ (-1)] 86)).alloc (.cells #[.slice (some (LD g 0)) l.length cap,LJ 0,LJ 0,LJ (-1)] 166)) (w1.heap.size+1+1) au (.slice eq au.length uc) bf er pl) (G:=?G1) (λez=>?_) ?_;rotate_left
     ·refine zln ?_;refine aCu ?_;refine wr2 4 6 (λK U=>?_) λK U=>?_
      ·go_simp;refine Qd ?_;clear U K;refine O7 6 λK U=>?_;go_simp;refine NJ ?_;rintro e ax ⟨⟨ck,rfl,bu,rfl⟩,fq,he,aa⟩;have b':=hide (hs.out.op.stay aa jC);have cC:Hid (av1 c ((w1.alloc (.cells #[LJ 0,LJ (-1)] 86)).alloc (.cells #[.slice (some (LD g 0)) l.length cap,LJ 0,LJ 0,LJ (-1)] 166)) (w1.heap.size+1+1) au _ bf er pl ax bu):=⟨fq.elim λj ae=>⟨j,ae,hs.out.ap.trans (aa.mono (nLz (lt_of_heap hs.out.op.blk)))⟩,b'.out,he⟩;exact aEf
      ·go_simp;refine NJ ?_;rintro e ax ⟨⟨ck,rfl,bu,rfl⟩,fq,he,aa⟩;have b':=hide (hs.out.op.stay aa jC);have cC:Hid (av1 c ((w1.alloc (.cells #[LJ 0,LJ (-1)] 86)).alloc (.cells #[.slice (some (LD g 0)) l.length cap,LJ 0,LJ 0,LJ (-1)] 166)) (w1.heap.size+1+1) au _ bf er pl ax bu):=⟨fq.elim λj ae=>⟨j,ae,hs.out.ap.trans (aa.mono (nLz (lt_of_heap hs.out.op.blk)))⟩,b'.out,he⟩;exact aD0
     ·intro ax bu dC;have cC:=hide dC;have dW:=(node_cells cC.out.op.blk).2.2.2.1;have dX:=(node_cells cC.out.op.blk).2.2.2.2;have d3:=lt_of_heap cC.out.op.blk;have hle2:=dE;refine O7 8 λK U=>?_
      refine step_append_lies _ rfl _ _ 46 rfl (w1.heap.size+1+1) 22 a6 Pe 1 8 zalbk b4 bL bM bP rfl MK _ _ _ rfl (by have h:=cC.out.op.row;rw[show bf.length=au.length from LU.length _ _ cC.out.op.kids] at h;exact h.alloc _) (LD ax.heap.size 0) 1 1 [LC bu] rfl rfl (OT ax bu _ rfl) (one_one bu) MK (by show au.length+1<=maxLen;unfold maxLen;omega) (by have ex:(Tr.mk 1 LH 0 au).kids.length=au.length:=rfl;omega) OM (ax.heap.size+1) MP ?_
      intro dn cap2 aq hown3 dD dc _;refine U _ _ ?_;clear U K;have dT:aq.heap[(w1.heap.size+1+1)]? = ax.heap[(w1.heap.size+1+1)]?:=(dD.block (w1.heap.size+1+1) OM (λe=>cC.out.op.own e.symm)).trans (zalaa ax _ (w1.heap.size+1+1) d3);have pT:∀ v,Hid ((aq.setCell (LD ((w1.heap.size+1+1)) 3) v).heap[(w1.heap.size+1+1)]? = some (MB 1 LH 0 v)):=λv=>by
       refine azX ?_;rfl
      have cB:∀ v,Hid (Below (w1.heap.size+1+1) ax (aq.setCell (LD ((w1.heap.size+1+1)) 3) v)):=λv=>cC.out.op.grows ((zalbd _ ax).alloc (nLz d3) _) OM dD;have A{G}(h:G:=by
      have h':(w1.heap.size+1+1)<aq.heap.size:=lt_of_heap (dT.trans cC.out.op.blk);have A{G}(h:G:=by
      go_roundg k
      case measure=>omega
      case rel=>
       obtain⟨ol,fq⟩:=cC.out.pg;exact zalal ⟨er,pl,ol,xd.out,cC.out.he,fq.ps.ap (Lu (cB _)) (by rw[A0.out];exact Nh),fq.ap.trans (Ap.of (Lu (cB _)))⟩):=LG h;exact aBo):=LG h;exact aBj):=LG h;exact aAU):=LG h;exact aAT):=LG h;exact zsu
    | ok t a8=>
     have dv:=hide T;rw[T] at lm;have xd:Hid ((Oa l F k (au++[t]) a8).bind (λts i=>PR.ok (Qg (.mk 1 LH 0 ts)) i)=r):=Lu lm;clear T;have A{G}(h:G:=by
     have A{G}(h:G:=by
     have f7:=(Lu bN c p6.out).st wr.drew.drew 0 j (.ok t a8) LM ((zaldg (λl=>MO l F.st 0 j) p6.out).trans dv.out).symm (by nofun) hs.out.ps;have A{G}(h:G:=by
     refine WG (H:=POk c ((w1.alloc (.cells #[LJ 0,LJ (-1)] 86)).alloc (.cells #[.slice (some (LD g 0)) l.length cap,LJ 0,LJ 0,LJ (-1)] 166)) (w1.heap.size+1+1) wr.drew.drew.heap.size au (.slice eq au.length uc) bf t a8) (G:=?G2) (λez=>?_) ?_;rotate_left
     ·refine zln ?_;refine aCu ?_;refine wr2 4 6 (λK U=>?_) λK U=>?_
      ·go_simp;refine Qd ?_;clear U K;refine O7 6 λK U=>?_;have A{G}(h:G:=by
       have b':=hide (hs.out.op.stay aa jC);have cC:Hid (POk c ((w1.alloc (.cells #[LJ 0,LJ (-1)] 86)).alloc (.cells #[.slice (some (LD g 0)) l.length cap,LJ 0,LJ 0,LJ (-1)] 166)) (w1.heap.size+1+1) wr.drew.drew.heap.size au _ bf t a8 ax bu):=⟨⟨fq,b'.out,hs.out.ap.trans (aa.mono (nLz (lt_of_heap hs.out.op.blk)))⟩,LU.cons fd LU.nil,hs.out.op.kb aa jC⟩;exact aEf):=LG h;go_simp;exact ab7
      ·have A{G}(h:G:=by
       have b':=hide (hs.out.op.stay aa jC);have cC:Hid (POk c ((w1.alloc (.cells #[LJ 0,LJ (-1)] 86)).alloc (.cells #[.slice (some (LD g 0)) l.length cap,LJ 0,LJ 0,LJ (-1)] 166)) (w1.heap.size+1+1) wr.drew.drew.heap.size au _ bf t a8 ax bu):=⟨⟨fq,b'.out,hs.out.ap.trans (aa.mono (nLz (lt_of_heap hs.out.op.blk)))⟩,LU.cons fd LU.nil,hs.out.op.kb aa jC⟩;exact aD0):=LG h;go_simp;exact ab7
     ·intro ax bu dC;have cC:=hide dC;have dW:=(node_cells cC.out.pg.op.blk).2.2.2.1;have dX:=(node_cells cC.out.pg.op.blk).2.2.2.2;have d3:=lt_of_heap cC.out.pg.op.blk;have hle2:=dE;refine O7 8 λK U=>?_
      refine step_append_lies _ rfl _ _ 46 rfl (w1.heap.size+1+1) 22 a6 Pe 1 8 zalbk b4 bL bM bP rfl MK _ _ _ rfl (by have h:=cC.out.pg.op.row;rw[show bf.length=au.length from LU.length _ _ cC.out.pg.op.kids] at h;exact h.alloc _) (LD ax.heap.size 0) 1 1 [LC bu] rfl rfl (OT ax bu _ rfl) (one_one bu) MK (by show au.length+1<=maxLen;unfold maxLen;omega) (by have ex:(Tr.mk 1 LH 0 au).kids.length=au.length:=rfl;omega) OM (ax.heap.size+1) MP ?_
      intro dn cap2 aq hown3 dD dc _;refine U _ _ ?_;clear U K;have i3:=hide (Open.acU cC.out.pg.op (hs.out.op.Za (nLz (lt_of_heap hs.out.op.blk)) Nh cC.out.nd cC.out.kb) rfl hown3 dD dc);have dT:aq.heap[(w1.heap.size+1+1)]? = ax.heap[(w1.heap.size+1+1)]?:=(dD.block (w1.heap.size+1+1) OM (λe=>cC.out.pg.op.own e.symm)).trans (zalaa ax _ (w1.heap.size+1+1) d3);have pT:∀ v,Hid ((aq.setCell (LD ((w1.heap.size+1+1)) 3) v).heap[(w1.heap.size+1+1)]? = some (MB 1 LH 0 v)):=λv=>by
       show _=_
       rw[heap_set (dT.trans cC.out.pg.op.blk)];rfl
      have cB:∀ v,Hid (Below (w1.heap.size+1+1) ax (aq.setCell (LD ((w1.heap.size+1+1)) 3) v)):=λv=>cC.out.pg.op.grows ((zalbd _ ax).alloc (nLz d3) _) OM dD;have A{G}(h:G:=by
      have h':(w1.heap.size+1+1)<aq.heap.size:=lt_of_heap (dT.trans cC.out.pg.op.blk);have A{G}(h:G:=by
      go_roundg k
      case measure=>omega
      case rel=>
       obtain⟨sp,vt⟩:=Open.asA i3.out (Lu (pT _));refine zalad ⟨au++[t],a8,_,sp,xd.out,⟨cC.out.pg.ps.ap (Lu (cB _)) (by rw[A0.out];exact Nh),vt,cC.out.pg.ap.trans (Ap.of (Lu (cB _)))⟩,?_,?_⟩
       ·have hR:j<a8:=by
         obtain⟨jl,cA⟩:=Lu gV;exact((Pm (l:=l) (d:=0) (cA.st (0+1) j hj)).2 t a8 dv.out).1
        simp;omega
       ·exact azk):=LG h;exact aBo):=LG h;exact aBj):=LG h;exact aAU):=LG h;exact aAT):=LG h;exact zsu
  ·have A{G}(h:G:=by
   have nG:=hide ms;have lm:=hide ac;have eU:=Qq he ms.ps.drew;unfold NW at eU;rw[ii.out] at eU;have es:=hide eU;clear ac eU;have br{G}(h:G:=by
   refine wg 2 (L9 false) rfl (zalad ⟨by kernel_rfl,λL aO=>by cases aO;go_simp⟩) rfl ?_
   refine wg 3 undef rfl (zalal ⟨by kernel_rfl,rfl⟩) rfl ?_;refine wg 4 undef rfl (zalal ⟨by kernel_rfl,rfl⟩) rfl ?_;refine wg 5 undef rfl (zalal ⟨by kernel_rfl,rfl⟩) rfl ?_;refine wg 6 undef rfl (zalal ⟨by kernel_rfl,rfl⟩) rfl ?_;refine wg 7 undef rfl (zalal ⟨by kernel_rfl,rfl⟩) rfl ?_;refine wg 8 undef rfl (zalal ⟨by kernel_rfl,rfl⟩) rfl ?_;refine wg 9 undef rfl (zalal ⟨by kernel_rfl,rfl⟩) rfl ?_;refine wg 10 undef rfl (zalal ⟨by kernel_rfl,rfl⟩) rfl ?_;refine wg 11 undef rfl (zalal ⟨by kernel_rfl,rfl⟩) rfl ?_
   refine wg 12 undef rfl (zalal ⟨by kernel_rfl,rfl⟩) rfl ?_;refine wg 13 undef rfl (zalal ⟨by kernel_rfl,rfl⟩) rfl ?_;refine wg 14 undef rfl (zalal ⟨by kernel_rfl,rfl⟩) rfl ?_;refine wg 15 (L9 false) rfl (zalad ⟨by kernel_rfl,λL aO=>by cases aO;go_simp⟩) rfl ?_
   refine XY ?_;go_wp2_with fail;have HJ:(w1.heap.size+1+1)<=wr.heap.size:=by have h:=nG.out.ap.size;simp at h;exact h
   have mb:=hide (nG.out.later HJ O4.drew);have db:=Qq he mb.out.ps;unfold NW at db;rw[ii.out] at db;have b9:=hide db;refine Ul ?_;rintro e w2 ⟨rfl,rfl⟩;have IL:=nG.out.ps.c2;rw[ii.out] at IL;have y3:=nG.out.ps.c3;rw[ii.out] at y3;have Dk:=nG.out.ps.SB;rw[ii.out] at Dk;have eg:=hide nG.out.ap;have bo:Hid (∀ t,amS r≠.ok t):=by
    intro t;rw[lm.out]
    nofun
   have gt:LX w wr:=adp ba.out ve.out eg.out (by rw[ii.out];omega) (by rw[ii.out];omega)
   have j4:(wr).heap[w.heap.size]? = some (NK #[LJ 0,LJ 0] 86):=(eg.out.block w.heap.size LM (by rw[ii.out];omega)).trans ((ve.out.block w.heap.size jG).trans mI.out)
   have lV:(wr).cell? (LD w.heap.size 0)=some (LJ 0):=by rw[cell_of j4];rfl
   have e8:(wr).cell? (LD w.heap.size 1)=some (LJ 0):=by rw[cell_of j4];rfl
   have j5:=Ny j4;have nf:=j5 0;have ng:=j5 1;have gf:=lt_of_heap j4;go_wp2_with fail;have jn:=YP (LJ er) (LJ (pl:Int)) j4;have cn:((wr.setCell (LD w.heap.size 0) (LJ er)).setCell (LD w.heap.size 1) (LJ (pl:Int))).cell? (LD w.heap.size 0)=some (LJ er):=by rw[show ((wr.setCell (LD w.heap.size 0) (LJ er)).setCell (LD w.heap.size 1) (LJ (pl:Int))).cell? _=_ from cell_of (w:=(wr.setCell (LD w.heap.size 0) (LJ er)).setCell (LD w.heap.size 1) (LJ (pl:Int))) jn 0];rfl
   have bC:((wr.setCell (LD w.heap.size 0) (LJ er)).setCell (LD w.heap.size 1) (LJ (pl:Int))).cell? (LD w.heap.size 1)=some (LJ (pl:Int)):=by rw[show ((wr.setCell (LD w.heap.size 0) (LJ er)).setCell (LD w.heap.size 1) (LJ (pl:Int))).cell? _=_ from cell_of (w:=(wr.setCell (LD w.heap.size 0) (LJ er)).setCell (LD w.heap.size 1) (LJ (pl:Int))) jn 1];rfl
   clear jn j4;refine zln ?_;refine wt 0 (Mc (w1.heap.size+1) 0) ?_;refine wt 1 (Mc (w1.heap.size+1) 0) ?_;refine wt 2 (Mc (w1.heap.size+1) 2) ?_;refine wt 4 Pe ?_;refine O7 3 λK U=>?_;go_simp;refine Qd ?_;clear U K;refine O7 5 λK U=>?_;go_simp;refine Qd ?_;clear U K;refine aad ?_
   go_wp2
   exact zalcs (v:=.tuple #[Pe,.agg #[LJ er,LJ (pl:Int)]]) (by simp[results,results46,go_sem,cn,bC]) rfl (by rw[aG.out];exact ajg bo.out he ((((gt.setCell (p:=(LD w.heap.size 0)) Nh _).setCell (p:=(LD w.heap.size 1)) Nh _))).drew.drew)):=LG h;exact azo):=LG h;exact aBg
def avG (s:LW):Prop:=s=VE\/s=Qv\/s=Ox
section
variable {l:List Tk} {s:LW} {i:Nat} (W:avG s) (an:fx l i=s)
include W an
end
def alq {l:List Tk}{F:OQ}{t:Tr}{j:Nat}(h:PZ l F=.ok t j):∃ ts,Oa l F F.fuel [] 0=.ok ts j/\t=Qg (.mk 1 LH 0 ts):=by
 unfold PZ at h;obtain⟨ts,bH,E,h⟩:=PU h;cases h;exact⟨ts,E,rfl⟩
structure Yg (p q g h k ah c1 c2 a b:Nat)(L:LK):Prop where
 x3:L.cell? (LD p 3)=some (.slice (some (LD g 0)) ah c1)
 y3:L.cell? (LD q 3)=some (.slice (some (LD h 0)) ah c2)
 xk:L.cell? (LD g k)=some (LC a)
 yk:L.cell? (LD h k)=some (LC b)
def aaC (I J:Nat->Prop):∀ (m:Nat) (t:Tr),t.count<=m->t.count<=100000->∀ (p q:Nat) (w:LK),Nj I w t p->Nj J w t q ->
  MC 16 #[LC p,LC q] w λe w'=>e=MN (L9 true)/\LX w w':=by
 intro m
 induction m with
 | zero=>
  exact anP
 | succ m aU=>
  intro t aH eO p q w mr hS;obtain⟨u,ps,hblk,hrow,hG,bd⟩:=mr.WT;obtain⟨v,bf,yj,CY,vZ,r3⟩:=hS.WT;have hlen:=LU.length _ _ bd;have yM:=LU.length _ _ r3;have A{G}(h:G:=by
  obtain⟨f0,f1,gp,dR,_⟩:=node_cells hblk;obtain⟨fN,fc,dn,hv,_⟩:=node_cells yj;obtain⟨eq,uc,aS⟩:=NH hrow;subst aS;obtain⟨va,ck,a0⟩:=NH CY;subst a0;rw[hlen] at dR;rw[yM] at hv;have gw:t.kids.length<=100000:=by have:=NG t.kids;omega
  obtain⟨kd,fD⟩:∃ kd,kd=t.kd:=⟨_,rfl⟩;obtain⟨tx,eC⟩:∃ tx,tx=t.tx:=⟨_,rfl⟩;obtain⟨kt,qE⟩:∃ kt,kt=t.n:=⟨_,rfl⟩;rw[<-fD] at f0 fN;rw[<-eC] at f1 fc;rw[<-qE] at gp dn;have kH:=hide bd;have Ek:=hide r3;have fa:=hide hrow;have AA:=hide CY;have A{G}(h:G:=by
  have ny:=hide hlen;have Es:=hide yM;have bk:=hide (lt_of_heap hblk);have aG:=hide (lt_of_heap yj);have ju:=hide dR;have kG:=hide hv;clear hG vZ r3 aU g6 aH eO hblk yj fD eC qE hlen yM;go_enter func16,ntmps16;go_wp2_with fail
  go_region
  go_wp2_with fail
  go_loopw [64] (λi wr=>∃ k:Nat,k<=t.kids.length/\i=LJ k/\LX w wr) (λi _=>t.kids.length - (intOf i).toNat)
  case atStart=>exact⟨0,zalae _,rfl,O4.drew⟩
  case round=>
   obtain⟨k,N,rfl,D⟩:=hrel;have aV:=hide D;clear D f0 f1 gp dR fN fc dn hv
   by_cases aC:k<t.kids.length
   ·obtain⟨g,cap,a0,hcell⟩:=OB fa.out (by have:=Lu ny;omega)
    have A{G}(h:G:=by
    obtain⟨h,I4,a0,ym⟩:=OB AA.out (by have:=Lu Es;omega)
    have A{G}(h:G:=by
    obtain⟨iu,mq⟩:=LU.get _ _ kH.out k aC;obtain⟨r3,ey⟩:=LU.get _ _ Ek.out k aC;have de:g<w.heap.size:=(Me fa.out g rfl).1;have Cs:h<w.heap.size:=(Me AA.out h rfl).1;have dT:=Lu aV;have oa:Nj I wr.drew t.kids[k] ps[k]:=Nj.later (λx _ ab=>(dT.drew).block x ab) _ _ mq;have pb:Nj J wr.drew t.kids[k] bf[k]:=Nj.later (λx _ ab=>(dT.drew).block x ab) _ _ ey;have bB:Yg p q g h k t.kids.length uc ck ps[k] bf[k] wr.drew:=
     ⟨by rw[zalar (w:=w) ((dT.drew).block p bk.out)];exact ju.out,by rw[zalar (w:=w) ((dT.drew).block q aG.out)];exact kG.out,by rw[zalar (w:=w) ((dT.drew).block g de)];exact hcell k iu,by rw[zalar (w:=w) ((dT.drew).block h Cs)];exact ym k r3⟩
    have dE:=TU t.kids k aC;have E:=Lu lr;have O:=Lu re;have ao:=Lu hX;have ag:=hide (i4.out t.kids[k] LM LM ps[k] bf[k] wr.drew oa pb);obtain⟨a,aa⟩:∃ a,a=ps[k]:=⟨_,rfl⟩;obtain⟨b,D⟩:∃ b,b=bf[k]:=⟨_,rfl⟩;rw[<-aa,<-D] at bB ag;have dm:=hide bB;have eY:(k:Int)<(t.kids.length:Int):=LM;have cy:Hid (∀ w2,Below wr.drew.heap.size wr.drew w2->Yg p q g h k t.kids.length uc ck a b w2/\LX w w2):=λw2 O=>by
     have ao:LX w w2:=dT.drew.trans (O.mono dT.drew.size);refine⟨⟨?_,?_,?_,?_⟩,ao⟩
     ·rw[zalar (w:=w) (ao.block p bk.out)];exact Lu ju
     ·rw[zalar (w:=w) (ao.block q aG.out)];exact Lu kG
     ·rw[zalar (w:=w) (ao.block g de)];rw[aa];exact hcell k iu
     ·rw[zalar (w:=w) (ao.block h Cs)];rw[D];exact ym k r3
    clear hcell ym dE E O ao aa D;go_wp2_with fail;refine wp_region_held (S:=Yg p q g h k t.kids.length uc ck a b) Nw ?_;refine alv ?_;refine wh 0 (LC p) dm.out ?_;refine wh 1 (LC p) dm.out ?_;refine wh 2 (Mc p 3) dm.out ?_;refine wg 3 (.slice (some (LD g 0)) t.kids.length uc) rfl (zalad ⟨by kernel_rfl,λL aO=>by have a2:=Yg.x3 aO;go_simp⟩) dm.out ?_
    refine wh 4 (LJ (k:Int)) dm.out ?_;refine wh 5 (Mc g k) dm.out ?_;refine wg 6 (LC a) rfl (zalad ⟨by kernel_rfl,λL aO=>by have a2:=Yg.xk aO;go_simp⟩) dm.out ?_
    refine wh 7 (LC q) dm.out ?_;refine wh 8 (LC q) dm.out ?_;refine wh 9 (Mc q 3) dm.out ?_;refine wg 10 (.slice (some (LD h 0)) t.kids.length ck) rfl (zalad ⟨by kernel_rfl,λL aO=>by have a2:=Yg.y3 aO;go_simp⟩) dm.out ?_
    refine wh 11 (LJ (k:Int)) dm.out ?_;refine wh 12 (Mc h k) dm.out ?_;refine wg 13 (LC b) rfl (zalad ⟨by kernel_rfl,λL aO=>by have a2:=Yg.yk aO;go_simp⟩) dm.out ?_
    refine UK 14 λK U=>?_;go_simp;refine NJ ?_;rintro e w2 ⟨rfl,a5⟩;obtain⟨dV,bx⟩:=cy.out w2 a5;have dw:=hide dV;have bV:=hide bx;refine U.out _ _ dw.out (λ_=>?_);clear U K;refine wh 15 (L9 false) dw.out ?_;refine XY ?_;go_wp2
    go_roundw
    case rel=>exact⟨k+1,by omega,by go_num,bV.out⟩
    case measure=>simp[intOf];omega):=LG h;exact Tf):=LG h;exact Tf
   ·have cq:k=t.kids.length:=LM;subst cq;go_wp2;go_ret;exact⟨rfl,aV.out⟩):=LG h;exact aqg):=LG h;exact adW
def anS (t:Tr):(Qg t).kd=t.kd:=by unfold Qg;split <;> rfl
def YX {aj bi:List LW}{s:LW}{t:Tr}(h:UM aj bi s=.ok t):t.kd=1/\t.count<=1500:=by
 unfold UM at h
 split at h
 ·
  cases h
 ·split at h
  ·
   cases h
  ·split at h
   ·
    cases h
   ·rename_i T
    split at h
    ·
     cases h
    ·
     cases h;obtain⟨ts,_,rfl⟩:=alq T;exact⟨anS _,by omega⟩
   ·
    cases h
def CE (a b:List Sc):Prop:=∀ (x:LW) (s:Bool),x≠LH->Qb a x s=Qb b x s
def CE.refl (a:List Sc):CE a a:=λ_ _ _=>rfl
def CE.cons {a b:List Sc}(h:CE a b){o lU:Int}{aR A2:List LW}{p ia:Bool}(ay:o=lU)(av:∀ x,hasB aR x=hasB A2 x)(ae:p=ia):CE (⟨o,aR,p⟩::a) (⟨lU,A2,ia⟩::b):=by
 intro x s af;subst ay ae;rw[Qb,Qb,av x,h x _ af]
def CE.skip {a b:List Sc}(h:CE a b)(o:Int):CE (⟨o,[LH],false⟩::a) b:=by
 intro x s af;have E:hasB [LH] x=false:=aap.2 (by simpa using af);rw[Qb,E];simpa using h x s af
def ae3 {f g:Tr->Nat->List Sc->Bool->List Us}{ch ly:List Sc}{st:Bool}:∀ (ts:List Tr),(∀ t ∈ ts,∀ no,f t no ch st=g t no ly st)->∀ no,Rh f ts no ch st=Rh g ts no ly st
 | [],_,_=>rfl
 | t::ts,h,no=>by
  rw[Rh,Rh,h t MP no,ae3 ts (λu aS=>h u (by simp[aS]))]
def Vis (c:Nat):Prop:=c≠4/\c≠5/\c≠6/\c≠9
def ase {Nm:LW->Prop}{c:Nat}{t:Tr}(h:PK Nm c t)(am:Vis c):MW t=false/\t.kd≠1/\t.kd≠40/\(t.kd=23->t.kids=[]/\Nm t.tx)/\(MF t=false->∀ k ∈ t.kids,∃ lv,Vis lv/\PK Nm lv k):=by
 have v0:Vis 0:=⟨by decide,by decide,by decide,by decide⟩;have v1:Vis 1:=⟨by decide,by decide,by decide,by decide⟩;have v2:Vis 2:=⟨by decide,by decide,by decide,by decide⟩;have v3:Vis 3:=⟨by decide,by decide,by decide,by decide⟩;have sr:Vis 7:=⟨by decide,by decide,by decide,by decide⟩;have zG:Vis 8:=⟨by decide,by decide,by decide,by decide⟩
 induction h with
 | apg h aU=>exact aU v3
 | name h=>exact⟨rfl,by simp[Tr.kd],by simp[Tr.kd],λ_=>⟨rfl,h⟩,λ_ k N=>by cases N⟩
 | str s=>exact⟨rfl,by simp[Tr.kd],by simp[Tr.kd],by simp[Tr.kd],λ_ k N=>by cases N⟩
 | num n=>exact⟨rfl,by simp[Tr.kd],by simp[Tr.kd],by simp[Tr.kd],λ_ k N=>by cases N⟩
 | lit N=>rcases N with rfl|rfl|rfl|rfl <;> exact⟨rfl,by simp[Tr.kd],by simp[Tr.kd],by simp[Tr.kd],λ_ k N=>by cases N⟩
 | av3 h aH=>exact⟨rfl,by simp[Tr.kd],by simp[Tr.kd],by simp[Tr.kd],λ_ k N=>by rw[zalaf.1 N];exact⟨_,v0,aH⟩⟩
 | call aH W ab=>
  have A{G}(h:G:=by
  rcases zalas.1 N with rfl|N
  ·exact⟨_,v0,aH⟩
  ·exact⟨_,v0,W k N⟩):=LG h;exact aq5
 | one N aH=>rcases N with rfl|rfl|rfl <;> exact⟨rfl,by simp[Tr.kd],by simp[Tr.kd],by simp[Tr.kd],λ_ k N=>by rw[zalaf.1 N];exact⟨_,v0,aH⟩⟩
 | @two kd _ _ N aa D _ _=>
  have E:(kd==1)=false:=by simp;omega
  have h6:(kd==6)=false:=by simp;omega
  refine⟨by unfold MW;simp only[Tr.kd];rw[E,h6];rfl,by simp only[Tr.kd];omega,by simp only[Tr.kd];omega,λe=>by simp only[Tr.kd] at e;omega,λ_ k N=>?_⟩
  exact azl
 | asg N aa D=>
  refine⟨rfl,by simp[Tr.kd],by simp[Tr.kd],by simp[Tr.kd],λ_ k N=>?_⟩;exact azl
 | obj W ab=>exact⟨rfl,by simp[Tr.kd],by simp[Tr.kd],by simp[Tr.kd],λ_ k N=>⟨_,v2,W k N⟩⟩
 | lam h ae D=>exact⟨rfl,by simp[Tr.kd],by simp[Tr.kd],by simp[Tr.kd],λan=>by cases an⟩
 | prop h a0=>exact⟨rfl,by simp[Tr.kd],by simp[Tr.kd],by simp[Tr.kd],λ_ k N=>by rw[zalaf.1 N];exact⟨_,v0,a0⟩⟩
 | par h=>exact absurd rfl am.2.2.1
 | ar8 W ab=>exact absurd rfl am.2.1
 | blk W=>exact⟨rfl,by simp[Tr.kd],by simp[Tr.kd],by simp[Tr.kd],λ_ k N=>⟨_,v1,W k N⟩⟩
 | body aH W=>exact absurd rfl am.1
 | decl N h a0 ab db=>rcases N with rfl|rfl|rfl <;> exact⟨rfl,by simp[Tr.kd],by simp[Tr.kd],by simp[Tr.kd],λ_ k N=>⟨_,v0,a0 k N⟩⟩
 | func h ae D=>exact⟨rfl,by simp[Tr.kd],by simp[Tr.kd],by simp[Tr.kd],λan=>by cases an⟩
 | sif a0 W=>
  have A{G}(h:G:=by
  rcases zalas.1 N with rfl|N
  ·exact⟨_,v0,a0⟩
  ·rw[zalaf.1 N];exact⟨_,v1,W⟩):=LG h;exact aq5
 | av4 a0 W he=>
  have A{G}(h:G:=by
  rcases zalas.1 N with rfl|N
  ·exact⟨_,v0,a0⟩
  ·rcases zalas.1 N with rfl|N
   ·exact⟨_,v1,W⟩
   ·rw[zalaf.1 N];exact⟨_,v1,he⟩):=LG h;exact aq5
 | loop N a0 W=>
  rcases N with rfl|rfl
  all_goals
   refine⟨rfl,by simp[Tr.kd],by simp[Tr.kd],by simp[Tr.kd],λ_ k N=>?_⟩
   rcases zalas.1 N with rfl|N
   ·exact⟨_,v0,a0⟩
   ·rw[zalaf.1 N];exact⟨_,v1,W⟩
 | give N a0 ab db=>rcases N with rfl|rfl <;> exact⟨rfl,by simp[Tr.kd],by simp[Tr.kd],by simp[Tr.kd],λ_ k N=>⟨_,v0,a0 k N⟩⟩
 | atm D db an ab=>
  have A{G}(h:G:=by
  rcases zalas.1 N with rfl|N
  ·exact⟨_,v3,D⟩
  ·rcases zalat.1 N with N|N
   ·exact⟨_,sr,db k N⟩
   ·exact⟨_,zG,an k N⟩):=LG h;exact aq5
 | cat h D=>exact⟨rfl,by simp[Tr.kd],by simp[Tr.kd],by simp[Tr.kd],λ_ k N=>by rw[zalaf.1 N];exact⟨_,v3,D⟩⟩
 | fin D=>exact⟨rfl,by simp[Tr.kd],by simp[Tr.kd],by simp[Tr.kd],λ_ k N=>by rw[zalaf.1 N];exact⟨_,v3,D⟩⟩
 | empty=>exact⟨rfl,by simp[Tr.kd],by simp[Tr.kd],by simp[Tr.kd],λ_ k N=>by cases N⟩
 | expr a0=>exact⟨rfl,by simp[Tr.kd],by simp[Tr.kd],by simp[Tr.kd],λ_ k N=>by rw[zalaf.1 N];exact⟨_,v0,a0⟩⟩
 | prog aH W=>exact absurd rfl am.2.2.2
def apt {Nm:LW->Prop}{b:Tr}(h:PK Nm 4 b):b.kd=6/\∀ k ∈ b.kids,PK Nm 1 k:=by
 cases h with
 | body aH W=>exact⟨rfl,W⟩
def Wu {t:Tr}:∀ {ts:List Tr},t ∈ ts->t.count<=Tr.counts ts
 | [],h=>by cases h
 | u::ts,h=>by
  rw[L6]
  rcases zalas.1 h with rfl|h
  ·omega
  ·have:=Wu h;omega
def ahI {Nm:LW->Prop}(aN:∀ x,Nm x->x≠LH):∀ (m kp:Nat) (t:Tr) (c:Nat),PK Nm c t->Vis c->t.count<=m->t.count<=kp->∀ (no:Nat) (ch ly:List Sc) (st:Bool),CE ch ly->tl m t no ch st=rl kp t no ly st
 | 0,_,t,_,_,_,h,_,_,_,_,_,_=>by have:=Ou t;omega
 | _+1,0,t,_,_,_,_,h,_,_,_,_,_=>by have:=Ou t;omega
 | m+1,kp+1,t,c,h,am,E,O,no,ch,ly,st,fV=>by
  obtain⟨W,a9,sk,pp,N⟩:=ase h am;have gc:=Ou t;have v1:Vis 1:=⟨by decide,by decide,by decide,by decide⟩;have all:MF t=false->∀ (no:Nat) (ch ly:List Sc) (st:Bool),CE ch ly->Rh (tl m) t.kids no ch st=Rh (rl kp) t.kids no ly st:=λan no ch ly st fV=>
   ae3 _ (λu aS no=>by
    obtain⟨lv,HV,HG⟩:=N an u aS;have:=Wu aS;exact ahI aN m kp u lv HG HV LM LM no ch ly st fV) no
  rw[tl,rl,W,zalfr]
  by_cases jS:t.kd=23
  ·rw[zalak jS,zalak jS,(pp jS).1,fV _ _ (aN _ (pp jS).2)];rfl
  rw[zalah jS,zalah jS,zalah a9]
  by_cases hb:t.kd=6
  ·have an:MF t=false:=by unfold MF;rw[hb];rfl
   have kV:t.kd≠9:=by rw[hb];decide
   have hO:t.kd≠13:=by rw[hb];decide
   rw[zalak hb,zalah kV,zalah hO,zalak hb];exact all an _ _ _ _ (fV.cons rfl (λ_=>rfl) rfl)
  rw[zalah hb]
  by_cases hO:t.kd=13
  ·have an:MF t=false:=by unfold MF;rw[hO];rfl
   have kV:t.kd≠9:=by rw[hO];decide
   rw[zalak hO,zalah kV,zalak hO];exact all an _ _ _ _ (fV.cons rfl (λ_=>rfl) rfl)
  rw[zalah hO]
  by_cases kV:t.kd=9
  ·have an:MF t=false:=by unfold MF;rw[kV];rfl
   rw[zalak kV,zalak kV];obtain⟨x,y,v9⟩:=ahG h kV;have m1:=gc;rw[v9,L6,L6] at m1;obtain⟨FY,HZ,HL⟩:=N an x (by rw[v9];simp)
   obtain⟨xs,H0,sb⟩:=N an y (by rw[v9];simp)
   rw[v9]
   show tl m x _ _ _++tl m y _ _ _=rl kp x _ _ _++rl kp y _ _ _
   rw[ahI aN m kp x FY HL HZ LM LM _ ch ly st fV,ahI aN m kp y xs sb H0 LM LM _ _ _ st (fV.cons rfl (λ_=>rfl) rfl)]
  rw[zalah kV,zalah kV,zalah hO,zalah hb]
  by_cases kW:t.kd=5\/t.kd=37
  ·rw[zalak kW,zalak kW];have an:MF t=true:=by unfold MF;rcases kW with e|e <;> rw[e] <;> rfl
   obtain⟨pr,b6,g3,_,gs⟩:=aed h an;obtain⟨cR,yi⟩:=apt gs;have m1:=gc;rw[g3,L6,L6] at m1;have qu:=Ou b6;have qL:MW b6=decide (b6.tx=Nq):=by unfold MW;rw[cR];rfl
   have GW:Vm b6=VT b6.kids:=by unfold Vm ceT;rw[cR];rfl
   rw[g3]
   show Rh (tl m) b6.kids _ _ _=Rh (rl kp) b6.kids _ _ _
   rw[qL];refine ae3 _ (λu aS Ip=>?_) _;have:=Wu aS;refine ahI aN m kp u 1 (yi u aS) v1 LM LM Ip _ _ _ ?_;unfold ak2 aal;refine CE.cons ?_ rfl (λx=>?_) (by rw[qL,GW,Bool.and_comm])
   ·by_cases qe:t.kd=37
    ·have D:(t.kd==37)=true:=by rw[qe];rfl
     rw[D,zalak rfl]
     by_cases xu:t.tx=LH
     ·have aD:(true && !decide (t.tx=LH))=false:=by simp[xu]
      rw[aD,xu,zalah MP];exact fV.skip _
     ·have aD:(true && !decide (t.tx=LH))=true:=by simp[xu]
      rw[aD,zalak rfl];exact fV.cons rfl (λ_=>rfl) rfl
    ·have D:(t.kd==37)=false:=by simpa using qe
     rw[D];exact fV
   ·unfold hasB;simp only[zaleq]
    congr 2
    have ao:hasB (pr.kids.map Tr.tx) x=hasB (NI (pr.kids.map Tr.tx)) x:=by
     rw[Bool.eq_iff_iff,Ui,Ui,abh]
    exact ao
  ·rw[zalah kW,zalah kW,zalah sk];have an:MF t=false:=by
    unfold MF;have oS:(t.kd==5)=false:=by simp;exact λe=>kW (zalad e)
    have xo:(t.kd==37)=false:=by simp;exact λe=>kW (zalal e)
    rw[oS,xo];rfl
   exact all an _ _ _ _ fV
def arZ {Nm:LW->Prop}(aN:∀ x,Nm x->x≠LH){t:Tr}(h:PK Nm 9 t):tl t.count t 0 [] false=Rh (rl t.count) t.kids 1 [⟨0,(O0 t).map Tr.tx,false⟩] (decide (t.tx=Nq)):=by
 have gc:=Ou t;have v1:Vis 1:=⟨by decide,by decide,by decide,by decide⟩;obtain⟨m,aA⟩:∃ m,t.count=m+1:=⟨Tr.counts t.kids,by omega⟩
 cases h with
 | prog aH W=>
  rename_i tx ts
  rw[aA,tl];have E:(Tr.mk 1 tx 0 ts).kd=1:=rfl;have jS:(Tr.mk 1 tx 0 ts).kd≠23:=by rw[E];decide
  rw[zalah jS,zalak E];have bB:(false||MW (Tr.mk 1 tx 0 ts))=decide ((Tr.mk 1 tx 0 ts).tx=Nq):=by unfold MW;rw[E];rfl
  rw[bB];refine ae3 _ (λu aS no=>?_) _;have:=Wu aS;exact ahI aN m (m+1) u 1 (W u aS) v1 LM LM no _ _ _ (CE.refl _)
