import Derived.Test.YtoimgcjbcbhclaaGreatDoorAz17
set_option maxRecDepth 100000
set_option maxHeartbeats 0
set_option linter.all false
namespace Go.Proofs.YtoimgcjbcbhclaaGreatDoor
open Go.RowKit Go.Proofs.Tryz
def awd {m:Nat}(ce:WalkC m)(a x y:Ad)(bd:a.ks=[x,y])(aA:a.cnt<=m+1)(I:Nat->Prop)(aI aw be aZ:Nat)(aK aL post:List Nat)(ah:List Us)(v:LY)(ps:List (LY × Sc))(w:LK)
  (bv:aK=aL++(a.N9++post)) (aO:Sz I aI aw be aZ aK ah w) (aa:MZ I w a) (ak:a.tr.ill=0) (c6:WS a.tr) (a7:RR I w v ps) (ee:0<ps.length) (bF:ps.length+a.cnt<=20000) (bm:ah.length+a.cnt<=20000)
  (fD:a.kd=5) :
  MC 70 #[LC a.p,v,L9 true,MX aI,MX be,MX aZ] w λe w'=>e=MN (.tuple #[])/\Sz I aI aw be aZ aK (ah++Rh (rl m) y.tr.kids (aL.length+1+x.tr.count+1) (aal a.tr x.tr y.tr aL.length ((ps.map Prod.snd).reverse) true) (true||decide (y.tr.tx=Nq))) w'/\Fm I w w':=by
 have A{G}(h:G:=by
 have A{G}(h:G:=by
 have A{G}(h:G:=by
 have A{G}(h:G:=by
 have A{G}(h:G:=by
 have A{G}(h:G:=by
 subst lP;exact atI):=LG h;exact aAY):=LG h;exact aqD):=LG h;exact zsi):=LG h;exact zss):=LG h;exact auE):=LG h;exact zsa
def awe {m:Nat}(ce:WalkC m)(a x y:Ad)(bd:a.ks=[x,y])(aA:a.cnt<=m+1)(I:Nat->Prop)(aI aw be aZ:Nat)(aK aL post:List Nat)(ah:List Us)(v:LY)(ps:List (LY × Sc))(w:LK)
  (bv:aK=aL++(a.N9++post)) (aO:Sz I aI aw be aZ aK ah w) (aa:MZ I w a) (ak:a.tr.ill=0) (c6:WS a.tr) (a7:RR I w v ps) (ee:0<ps.length) (bF:ps.length+a.cnt<=20000) (bm:ah.length+a.cnt<=20000)
  (fD:a.kd=5) :
  MC 70 #[LC a.p,v,L9 false,MX aI,MX be,MX aZ] w λe w'=>e=MN (.tuple #[])/\Sz I aI aw be aZ aK (ah++Rh (rl m) y.tr.kids (aL.length+1+x.tr.count+1) (aal a.tr x.tr y.tr aL.length ((ps.map Prod.snd).reverse) false) (false||decide (y.tr.tx=Nq))) w'/\Fm I w w':=by
 have A{G}(h:G:=by
 have A{G}(h:G:=by
 have A{G}(h:G:=by
 generalize decide (y.tr.tx=Nq)=iF at *
 have A{G}(h:G:=by
 have A{G}(h:G:=by
 have A{G}(h:G:=by
 subst lP;exact avz):=LG h;exact aAY):=LG h;exact aqD):=LG h;exact zsi):=LG h;exact zss):=LG h;exact auC):=LG h;exact zsa
def awf {m:Nat}(ce:WalkC m)(a x y:Ad)(bd:a.ks=[x,y])(aA:a.cnt<=m+1)(I:Nat->Prop)(aI aw be aZ:Nat)(aK aL post:List Nat)(ah:List Us)(v:LY)(ps:List (LY × Sc))(w:LK)
  (bv:aK=aL++(a.N9++post)) (aO:Sz I aI aw be aZ aK ah w) (aa:MZ I w a) (ak:a.tr.ill=0) (c6:WS a.tr) (a7:RR I w v ps) (ee:0<ps.length) (bF:ps.length+a.cnt<=20000) (bm:ah.length+a.cnt<=20000)
  (fD:a.kd=37) (eC:a.tx=LH) :
  MC 70 #[LC a.p,v,L9 true,MX aI,MX be,MX aZ] w λe w'=>e=MN (.tuple #[])/\Sz I aI aw be aZ aK (ah++Rh (rl m) y.tr.kids (aL.length+1+x.tr.count+1) (aal a.tr x.tr y.tr aL.length ((ps.map Prod.snd).reverse) true) (true||decide (y.tr.tx=Nq))) w'/\Fm I w w':=by
 have A{G}(h:G:=by
 have A{G}(h:G:=by
 have A{G}(h:G:=by
 subst eC;have A{G}(h:G:=by
 have A{G}(h:G:=by
 have A{G}(h:G:=by
 subst lP;exact atI):=LG h;exact aAW):=LG h;exact aqD):=LG h;exact zsi):=LG h;exact zss):=LG h;exact auE):=LG h;exact zsa
def awg {m:Nat}(ce:WalkC m)(a x y:Ad)(bd:a.ks=[x,y])(aA:a.cnt<=m+1)(I:Nat->Prop)(aI aw be aZ:Nat)(aK aL post:List Nat)(ah:List Us)(v:LY)(ps:List (LY × Sc))(w:LK)
  (bv:aK=aL++(a.N9++post)) (aO:Sz I aI aw be aZ aK ah w) (aa:MZ I w a) (ak:a.tr.ill=0) (c6:WS a.tr) (a7:RR I w v ps) (ee:0<ps.length) (bF:ps.length+a.cnt<=20000) (bm:ah.length+a.cnt<=20000)
  (fD:a.kd=37) (eC:a.tx=LH) :
  MC 70 #[LC a.p,v,L9 false,MX aI,MX be,MX aZ] w λe w'=>e=MN (.tuple #[])/\Sz I aI aw be aZ aK (ah++Rh (rl m) y.tr.kids (aL.length+1+x.tr.count+1) (aal a.tr x.tr y.tr aL.length ((ps.map Prod.snd).reverse) false) (false||decide (y.tr.tx=Nq))) w'/\Fm I w w':=by
 have A{G}(h:G:=by
 have A{G}(h:G:=by
 have A{G}(h:G:=by
 subst eC
 generalize decide (y.tr.tx=Nq)=iF at *
 have A{G}(h:G:=by
 have A{G}(h:G:=by
 have A{G}(h:G:=by
 subst lP;exact avz):=LG h;exact aAW):=LG h;exact aqD):=LG h;exact zsi):=LG h;exact zss):=LG h;exact auC):=LG h;exact zsa
