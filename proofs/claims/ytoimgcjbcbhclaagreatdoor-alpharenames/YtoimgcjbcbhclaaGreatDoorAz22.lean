import Derived.Test.YtoimgcjbcbhclaaGreatDoorAz20
import Derived.Test.YtoimgcjbcbhclaaGreatDoorAz17
set_option maxRecDepth 100000
set_option maxHeartbeats 0
set_option linter.all false
namespace Go.Proofs.YtoimgcjbcbhclaaGreatDoor
open Go.RowKit Go.Proofs.Tryz
def avZ {c:PC}{F:OQ}(ai:ZW c F)(aN:∃ k,VW c.l k F)(U:ZK F)(w:LK)(d i:Nat)(r:PR Tr)(aD:d<=30)(an:fx c.l i=tIf)(W:r=(Px c.l F d (i+1)).bind λv az=>(MO c.l F.st d az).bind λs aX=>if fx c.l aX=VE then (MO c.l F.st d (aX+1)).bind λe9 ca=>.ok (.mk 7 LH 0 [v,s,e9]) ca else .ok (.mk 7 LH 0 [v,s]) aX)(ay:r≠.out)(h:Ps c w i 0 (-1)) :
  MC 111 #[NW c,LJ (d:Int)] w (Oj c w (NV w.heap.size) ZN r):=by
 have A{G}(h:G:=by
 have A{G}(h:G:=by
 have A{G}(h:G:=by
 have ag:=hide (OZ c w1 i Nb MK e1 f'.out.ps);go_wp2_with fail;refine NJ ?_;rintro e w2 ⟨rfl,D⟩;have dw:=hide (f'.out.below D);have ag:=hide (OZ c w2 i MI MK e2 dw.out.ps);go_wp2_with fail;refine NJ ?_;rintro e aq ⟨rfl,D⟩;have iJ:=hide (dw.out.below D);have ag:=hide (OG c aq i tIf MK an iJ.out.ps);go_wp2_with fail;refine NJ ?_;rintro e bh ⟨rfl,ae,aa⟩;have nO:=hide (iJ.out.on a1.out ae aa);have aG:=hide W;(try clear ay W aN U);obtain⟨a6,b4,bL,bM,bP⟩:=zalbl info22
 have e3:=hide (nO.out.kind dl.out 7);have jC:c.P<w.heap.size:=Lu a1;have aI:=nO.out.nd;have A{G}(h:G:=by
 (try clear aI)
 cases T:Px c.l F d (i+1) with
 | out=>rw[T] at aG;exact absurd aG.out bb.out
 | bad er pl=>
  have A{G}(h:G:=by
  (try clear zv c0 c1 c2 c3 dx lx h4 ey);go_wp2_with fail;refine Ul ?_;rintro e cs ⟨⟨v,rfl,dM,rfl⟩,⟨a8,bE⟩,_,cI⟩;exact aDW):=LG h;exact aAF
 | ok t j=>
  have br{G}(h:G:=by
  have bY:Hid (r=(MO c.l F.st d j).bind λs aX=>if fx c.l aX=VE then (MO c.l F.st d (aX+1)).bind λe9 ca=>.ok (.mk 7 LH 0 [t,s,e9]) ca else .ok (.mk 7 LH 0 [t,s]) aX):=Lu aG;have A{G}(h:G:=by
  (try clear c0 c1 c2 c3 dx lx h4 ey)
  cases T:MO c.l F.st d j with
  | out=>rw[T] at bY;exact absurd bY.out bb.out
  | bad er pl=>
   have A{G}(h:G:=by
   have ac:r=.bad er pl:=Lu bY;subst ac;(try clear T);go_wp2_with fail;refine Ul ?_;rintro e cs ⟨⟨v,rfl,dM,rfl⟩,⟨a8,bE⟩,he,cI⟩;exact aDW):=LG h;exact an6
  | ok s a8=>
   have A{G}(h:G:=by
   have gG:Hid (r=if fx c.l a8=VE then (MO c.l F.st d (a8+1)).bind λe9 ca=>.ok (.mk 7 LH 0 [t,s,e9]) ca else .ok (.mk 7 LH 0 [t,s]) a8):=Lu bY;(try clear T);go_wp2_with fail;refine Ul ?_;rintro e cs ⟨⟨v,rfl,dM,rfl,gy⟩,bE,cI⟩;have A{G}(h:G:=by
   have A{G}(h:G:=by
   have bI:Hid (Open w.heap.size ((cs.setCell (LD w.heap.size 3) (.slice (some (LD cs.heap.size 0)) 2 2)).alloc (.cells #[LC q,LC dM] 22)) (.mk 7 LH 0 [t,s]) w.heap.size (.slice (some (LD cs.heap.size 0)) 2 2) [q,dM]):=ajR Nh vh.out (set1 cs w.heap.size _) MP (zalan jz.out cI.size) (by rw[heap_set aI];rfl) zu rfl #[LC q,LC dM] rfl (by simp[maxLen])
   (try clear aI)
   by_cases af:fx c.l a8=VE
   ·rw[zalak af] at gG;have cK:=hide (OG c _ a8 VE MK af bk.out);(try clear af);go_wp2_with fail;refine WB ?_;rintro e cM ⟨rfl,k5,gJ⟩;have ma:=hide k5;have i0:=hide (bS.out.next gJ);have uR:=hide (bI.out.stay gJ a1.out);(try clear c0 c1 c2 c3 dx h4 ey);obtain⟨gu,ja,ed⟩:=uR.out.cell
    cases T:MO c.l F.st d (a8+1) with
    | out=>rw[T] at gG;exact absurd gG.out bb.out
    | bad er pl=>
     have ag:=hide (Uy bN.out cM.drew d (a8+1) _ aD T.symm (by nofun) ma.out.drew);rw[T] at gG;have ac:r=.bad er pl:=Lu gG;subst ac;(try clear T);go_wp2_with fail;refine zld ?_;refine alT ?_;refine wr2 4 7 (λK U=>?_) λK U=>?_
     ·go_simp;refine Qd ?_;(try clear U K);refine O7 7 λK U=>?_;go_simp;refine NJ ?_;rintro e ax ⟨⟨ck,rfl,bu,rfl⟩,⟨ol,fq⟩,he,aa⟩;have A{G}(h:G:=by
      obtain⟨dW,dX,d3⟩:=b'.out.cell;refine U _ _ ?_;(try clear U K);refine O7 8 λK U=>?_;exact avt):=LG h;exact aqR
     ·go_simp;refine NJ ?_;rintro e ax ⟨⟨ck,rfl,bu,rfl⟩,⟨ol,fq⟩,he,aa⟩;have A{G}(h:G:=by
      obtain⟨dW,dX,d3⟩:=b'.out.cell;refine U _ _ ?_;(try clear U K);refine wr2 4 8 (λK U=>?_) λK U=>?_
      ·go_simp;refine Qd ?_;(try clear U K);refine O7 8 λK U=>?_;exact avt
      ·go_simp;refine Qd ?_;(try clear U K);refine O7 4 λK U=>?_;exact avt):=LG h;exact aqR
    | ok e9 eI=>
     have ag:=hide (Uy bN.out cM.drew d (a8+1) _ aD T.symm (by nofun) ma.out.drew);rw[T] at gG;have ac:r=.ok (.mk 7 LH 0 [t,s,e9]) eI:=Lu gG;subst ac;(try clear T);go_wp2_with fail;refine zld ?_;refine alT ?_;refine wr2 4 7 (λK U=>?_) λK U=>?_
     ·go_simp;refine Qd ?_;(try clear U K);refine O7 7 λK U=>?_;have A{G}(h:G:=by
      have A{G}(h:G:=by
      have A{G}(h:G:=by
      refine O7 8 λK U=>?_;exact avs):=LG h;exact aBs):=LG h;exact aqR):=LG h;go_simp;exact ab7
     ·have A{G}(h:G:=by
      have A{G}(h:G:=by
      have A{G}(h:G:=by
      refine wr2 4 8 (λK U=>?_) λK U=>?_
      ·go_simp;refine Qd ?_;(try clear U K);refine O7 8 λK U=>?_;exact avs
      ·go_simp;refine Qd ?_;(try clear U K);refine O7 4 λK U=>?_;exact avs):=LG h;exact aBs):=LG h;exact aqR):=LG h;go_simp;exact ab7
   ·rw[zalah af] at gG;have ac:r=.ok (.mk 7 LH 0 [t,s]) a8:=Lu gG;subst ac;have cK:=hide (OZ c _ a8 VE MK af bk.out);(try clear af);go_wp2_with fail;refine WB ?_;rintro e wz ⟨rfl,D⟩;have np:=hide (bS.out.next (Ap.of D));have nF:=hide (bk.out.later D);have EB:=hide (bI.out.stay (Ap.of D) a1.out).nv;(try clear c0 c1 c2 c3 dx h4 ey);go_wp2;go_ret;exact⟨⟨_,rfl,EB.out⟩,nF.out,np.out⟩):=LG h;exact auz):=LG h;exact an2):=LG h;exact an6):=LG h;exact aug):=LG h;exact ztz):=LG h;exact XZ):=LG h;exact zsm):=LG h;exact azT):=LG h;exact af2
def amO {c:PC}{F:OQ}(ai:ZW c F)(aN:∃ k,VW c.l k F)(U:ZK F)(w:LK)(d i:Nat)(r:PR Tr)(aD:d<=30)(b:Tr)(j:Nat)(an:fx c.l i=Uu)(d9:MV c.l F d (i+1)=.ok b j)(dZ:¬ fx c.l j=Qv)(jX:fx c.l j=Ox)(W:r=(MV c.l F d (i+1)).bind λb az=>(QX c.l F d az).bind λi8 aX=>(Oh c.l F d aX).bind λf ca=>if i8.length+f.length=0 then Qo c.l 3 ca else .ok (.mk 12 LH 0 (b::(i8++f))) ca)(ay:r≠.out)(h:Ps c w i 0 (-1)) :
  MC 111 #[NW c,LJ (d:Int)] w (Oj c w (NV w.heap.size) ZN r):=by
 have A{G}(h:G:=by
 have hr:=hide U;have A{G}(h:G:=by
 have iz:¬ fx c.l i=QU:=by rw[an];decide
 have aG:=hide W;(try clear W);have A{G}(h:G:=by
 have A{G}(h:G:=by
 have A{G}(h:G:=by
 (try clear aI);have g9:Hid (r=(MV c.l F d (j+1)).bind λa' az=>.ok (.mk 12 LH 0 [b,.mk 14 LH 0 [a']]) az):=by
  have E:=Lu aG;rw[d9,bind_ok] at E;unfold QX at E;rw[zalah dZ,bind_ok] at E;unfold Oh at E;rw[zalak jX] at E;rw[E]
  cases MV c.l F d (j+1) <;> rfl
 have A{G}(h:G:=by
 have A{G}(h:G:=by
 have cK:=hide (OG c _ j Ox MK af bk.out);have A{G}(h:G:=by
 (try clear dZ jX);obtain⟨gu,ja,ed⟩:=bI.out.cell
 cases T:MV c.l F d (j+1) with
 | out=>rw[T] at g9;exact absurd g9.out bb.out
 | bad er pl=>
  have ag:=hide (PL bN.out e4.out hr.out false cM.drew d (j+1) _ aD T.symm (by nofun) bk.out.drew);rw[T] at g9;have ac:r=.bad er pl:=Lu g9;subst ac;(try clear T);go_wp2_with fail;refine WG (H:=QT c w (.mk 12 LH 0 [b]) (.slice (some (LD cs.heap.size 0)) 1 1) [q] er pl) (G:=?G1) (λez=>?_) ?_;rotate_left
  ·refine zld ?_;refine alT ?_;refine wr2 4 7 (λK U=>?_) λK U=>?_
   ·go_simp;refine Qd ?_;(try clear U K);refine O7 7 λK U=>?_;have A{G}(h:G:=by
    have A{G}(h:G:=by
    have cC:Hid (QT _ _ _ _ _ _ _ ax bu):=QT.mk dh.out fq b'.out he;exact ark):=LG h;exact aq4):=LG h;go_simp;exact alJ
   ·have A{G}(h:G:=by
    have A{G}(h:G:=by
    have cC:Hid (QT _ _ _ _ _ _ _ ax bu):=QT.mk dh.out fq b'.out he;exact ari):=LG h;exact aq4):=LG h;go_simp;exact alJ
  ·have A{G}(h:G:=by
   have A{G}(h:G:=by
   have A{G}(h:G:=by
   (try clear dc);exact aEd):=LG h;exact aBm):=LG h;exact alG):=LG h;exact aqB
 | ok a' eI=>
  have ag:=hide (PL bN.out e4.out hr.out false cM.drew d (j+1) _ aD T.symm (by nofun) bk.out.drew);rw[T] at g9;have ac:r=.ok (.mk 12 LH 0 [b,.mk 14 LH 0 [a']]) eI:=Lu g9;subst ac;(try clear T);go_wp2_with fail;have mf:=hide bS.out.size;have jO:Hid (cM.heap.size<=cM.heap.size):=Nh;refine WG (H:=SN c w cM.heap.size (.mk 12 LH 0 [b]) (.slice (some (LD cs.heap.size 0)) 1 1) [q] a' eI) (G:=?G2) (λez=>?_) ?_;rotate_left
  ·refine zld ?_;refine alT ?_;refine wr2 4 7 (λK U=>?_) λK U=>?_
   ·go_simp;refine Qd ?_;(try clear U K);refine O7 7 λK U=>?_;have A{G}(h:G:=by
    have dh:=hide (bS.out.drew.next aa);have A{G}(h:G:=by
    have cC:Hid (SN _ _ _ _ _ _ _ _ ax bu):=SN.mk (Z:=cM.heap.size) dh.out fq b'.out (LU.cons fd LU.nil) aa.size (bI.out.kb (((Ap.refl c.P cM.heap.size cM).drew).next aa) a1.out);exact ark):=LG h;exact aq4):=LG h;go_simp;exact ab7
   ·have A{G}(h:G:=by
    have dh:=hide (bS.out.drew.next aa);have A{G}(h:G:=by
    have cC:Hid (SN _ _ _ _ _ _ _ _ ax bu):=SN.mk (Z:=cM.heap.size) dh.out fq b'.out (LU.cons fd LU.nil) aa.size (bI.out.kb (((Ap.refl c.P cM.heap.size cM).drew).next aa) a1.out);exact ari):=LG h;exact aq4):=LG h;go_simp;exact ab7
  ·have A{G}(h:G:=by
   have i3:=hide (Open.acU (x:=.mk 14 LH 0 [a']) rk.out (bI.out.Za mf.out Nh (LU.cons (YC (Vp cC.out.nd cC.out.sz (by simp[maxLen]) #[LC bu] rfl 1 rfl 14 LH 0 _ rfl).nv) LU.nil) ((cC.out.kb.alloc _).alloc _)) rfl hown3 dD (dc.imp id λe=>by rw[e];simp))
   have A{G}(h:G:=by
   have A{G}(h:G:=by
   (try clear dc);exact aEk):=LG h;exact aBm):=LG h;exact alG):=LG h;exact aqB):=LG h;exact auv):=LG h;exact aA1):=LG h;exact zsl):=LG h;exact XZ):=LG h;exact auf):=LG h;exact zsb):=LG h;exact afY):=LG h;exact af2
def awh {m:Nat}(ce:WalkC m)(a x y:Ad)(bd:a.ks=[x,y])(aA:a.cnt<=m+1)(I:Nat->Prop)(aI aw be aZ:Nat)(aK aL post:List Nat)(ah:List Us)(v:LY)(ps:List (LY × Sc))(w:LK)
  (bv:aK=aL++(a.N9++post)) (aO:Sz I aI aw be aZ aK ah w) (aa:MZ I w a) (ak:a.tr.ill=0) (c6:WS a.tr) (a7:RR I w v ps) (ee:0<ps.length) (bF:ps.length+a.cnt<=20000) (bm:ah.length+a.cnt<=20000)
  (fD:a.kd=37) (eC:a.tx≠LH) :
  MC 70 #[LC a.p,v,L9 true,MX aI,MX be,MX aZ] w λe w'=>e=MN (.tuple #[])/\Sz I aI aw be aZ aK (ah++Rh (rl m) y.tr.kids (aL.length+1+x.tr.count+1) (aal a.tr x.tr y.tr aL.length ((ps.map Prod.snd).reverse) true) (true||decide (y.tr.tx=Nq))) w'/\Fm I w w':=by
 have A{G}(h:G:=by
 have A{G}(h:G:=by
 have A{G}(h:G:=by
 have A{G}(h:G:=by
 have v4:tx.toList.isEmpty=false:=azj
 have ka:=hide a9;go_wp2_with fail;have A{G}(h:G:=by
 have A{G}(h:G:=by
 have A{G}(h:G:=by
 go_simp;exact atI):=LG h;exact aAQ):=LG h;exact zsk):=LG h;exact auq):=LG h;exact zsi):=LG h;exact zss):=LG h;exact auE):=LG h;exact zsa
def awi {m:Nat}(ce:WalkC m)(a x y:Ad)(bd:a.ks=[x,y])(aA:a.cnt<=m+1)(I:Nat->Prop)(aI aw be aZ:Nat)(aK aL post:List Nat)(ah:List Us)(v:LY)(ps:List (LY × Sc))(w:LK)
  (bv:aK=aL++(a.N9++post)) (aO:Sz I aI aw be aZ aK ah w) (aa:MZ I w a) (ak:a.tr.ill=0) (c6:WS a.tr) (a7:RR I w v ps) (ee:0<ps.length) (bF:ps.length+a.cnt<=20000) (bm:ah.length+a.cnt<=20000)
  (fD:a.kd=37) (eC:a.tx≠LH) :
  MC 70 #[LC a.p,v,L9 false,MX aI,MX be,MX aZ] w λe w'=>e=MN (.tuple #[])/\Sz I aI aw be aZ aK (ah++Rh (rl m) y.tr.kids (aL.length+1+x.tr.count+1) (aal a.tr x.tr y.tr aL.length ((ps.map Prod.snd).reverse) false) (false||decide (y.tr.tx=Nq))) w'/\Fm I w w':=by
 have A{G}(h:G:=by
 have A{G}(h:G:=by
 have A{G}(h:G:=by
 generalize decide (y.tr.tx=Nq)=iF at *
 have A{G}(h:G:=by
 have v4:tx.toList.isEmpty=false:=azj
 have ka:=hide a9;go_wp2_with fail;have A{G}(h:G:=by
 have A{G}(h:G:=by
 have A{G}(h:G:=by
 go_simp;exact avz):=LG h;exact aAQ):=LG h;exact zsk):=LG h;exact auq):=LG h;exact zsi):=LG h;exact zss):=LG h;exact auC):=LG h;exact zsa
