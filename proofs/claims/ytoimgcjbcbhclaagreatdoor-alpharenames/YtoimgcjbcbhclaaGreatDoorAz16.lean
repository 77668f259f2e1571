import Derived.Test.YtoimgcjbcbhclaaGreatDoorAz13
import Derived.Test.YtoimgcjbcbhclaaGreatDoorAz15
set_option maxRecDepth 100000
set_option maxHeartbeats 0
set_option linter.all false
namespace Go.Proofs.YtoimgcjbcbhclaaGreatDoor
open Go.RowKit Go.Proofs.Tryz
def tl6 (w:LK)(p tb aw no:Nat)(aQ:Option Addr)(st dk:Bool)(dj:Option Addr)(kn cY:Nat)(aR:List LW)(Q:LK->Prop)(c0:w.cell? (LD p 0)=some (LJ 6))(c3:w.cell? (LD p 3)=some (.slice dj kn cY))
  (cg:w.cell? (LD tb 0)=some (.map (some aw))) (hnum:∀ X,LX w X->(Instr.lookup 44 (.map (some aw)) (LC p) false).run prog X=.ok (LJ (no:Int)) X)
  (ix:∀ X,LX w X->MC 113 #[LC p,L9 false] X λe w'=>(∃ u,e=MN u/\Na X.heap.size w' u aR)/\LX X w')
  (bB:∀ X,LX w X->MC 118 #[LC p] X λe w'=>e=MN (L9 dk)/\w'=X)
  (h9:∀ X b nv,LX w X->w.heap.size<=b->X.heap[b]? = some (UN no nv false (.pointer aQ))->Na w.heap.size X nv aR->MC 127 #[MX tb,.slice dj kn cY,Pv (MX b) (st||dk)] X λe w'=>e=MN (.tuple #[])/\Q w') :
  MC 68 #[MX tb,LC p,Pv (.pointer aQ) st] w λe w'=>e=MN (.tuple #[])/\Q w':=by
 have A{G}(h:G:=by
 have jw:=hide ix;clear bB h9 hnum cg ix
 cases st with
 | true=>
  rw[zalco] at gY;have A{G}(h:G:=by
  have A{G}(h:G:=by
  have A{G}(h:G:=by
  refine MR 11 (λX=>LX w2 X) Nw ?_;rw[<-cb];clear cb;have A{G}(h:G:=by
  have A{G}(h:G:=by
  have A{G}(h:G:=by
  refine cm (Ur aQ true no en aR.length i7 false none aq) ?_;have A{G}(h:G:=by
  have A{G}(h:G:=by
  have A{G}(h:G:=by
  refine Qh 11 λK U=>?_;exact aCK):=LG h;exact aqG):=LG h;exact auI):=LG h;exact alB):=LG h;exact aAK):=LG h;exact abX):=LG h;exact an4):=LG h;exact af0):=LG h;exact alH):=LG h;exact zsx
 | false=>
  rw[zalbn] at gY;have A{G}(h:G:=by
  have A{G}(h:G:=by
  have A{G}(h:G:=by
  refine MR 11 (λX=>LX w2 X) Nw ?_;have A{G}(h:G:=by
  have A{G}(h:G:=by
  have A{G}(h:G:=by
  refine cm (Ur aQ dk no en aR.length i7 false none aq) ?_;have A{G}(h:G:=by
  have A{G}(h:G:=by
  refine Qh 11 λK U=>?_;exact aCM):=LG h;exact aue):=LG h;exact alB):=LG h;exact aAK):=LG h;exact abX):=LG h;exact auu):=LG h;exact af0):=LG h;exact alH):=LG h;exact zsr):=LG h;exact auA
def tl1 (w:LK)(p tb aw no:Nat)(aQ:Option Addr)(st dk:Bool)(dj:Option Addr)(kn cY:Nat)(aR:List LW)(Q:LK->Prop)(c0:w.cell? (LD p 0)=some (LJ 1))(c3:w.cell? (LD p 3)=some (.slice dj kn cY))
  (cg:w.cell? (LD tb 0)=some (.map (some aw))) (hnum:∀ X,LX w X->(Instr.lookup 44 (.map (some aw)) (LC p) false).run prog X=.ok (LJ (no:Int)) X)
  (iQ:∀ X,LX w X->MC 126 #[LC p] X λe w'=>(∃ u,e=MN u/\MC 125 #[u] w' λe w2=>(∃ u,e=MN u/\Na w'.heap.size w2 u aR)/\LX w' w2)/\LX X w')
  (bB:∀ X,LX w X->MC 118 #[LC p] X λe w'=>e=MN (L9 dk)/\w'=X)
  (h9:∀ X b nv,LX w X->w.heap.size<=b->X.heap[b]? = some (UN no nv false (.pointer aQ))->Na w.heap.size X nv aR->MC 127 #[MX tb,.slice dj kn cY,Pv (MX b) (st||dk)] X λe w'=>e=MN (.tuple #[])/\Q w') :
  MC 68 #[MX tb,LC p,Pv (.pointer aQ) st] w λe w'=>e=MN (.tuple #[])/\Q w':=by
 have A{G}(h:G:=by
 have hK:=hide iQ;clear bB h9 hnum cg iQ
 cases st with
 | true=>
  rw[zalco] at gY;have A{G}(h:G:=by
  have A{G}(h:G:=by
  have A{G}(h:G:=by
  refine MR 12 (λX=>LX w2 X) Nw ?_;rw[<-cb];clear cb;have A{G}(h:G:=by
  have A{G}(h:G:=by
  have A{G}(h:G:=by
  refine cm (Ur aQ true no en aR.length i7 false none aq) ?_;have A{G}(h:G:=by
  have A{G}(h:G:=by
  have A{G}(h:G:=by
  refine Qh 12 λK U=>?_;exact aCK):=LG h;exact aqG):=LG h;exact auI):=LG h;exact alB):=LG h;exact aAg):=LG h;exact abX):=LG h;exact an4):=LG h;exact af0):=LG h;exact alH):=LG h;exact zsx
 | false=>
  rw[zalbn] at gY;have A{G}(h:G:=by
  have A{G}(h:G:=by
  have A{G}(h:G:=by
  refine MR 12 (λX=>LX w2 X) Nw ?_;have A{G}(h:G:=by
  have A{G}(h:G:=by
  have A{G}(h:G:=by
  refine cm (Ur aQ dk no en aR.length i7 false none aq) ?_;have A{G}(h:G:=by
  have A{G}(h:G:=by
  refine Qh 12 λK U=>?_;exact aCM):=LG h;exact aue):=LG h;exact alB):=LG h;exact aAg):=LG h;exact abX):=LG h;exact auu):=LG h;exact af0):=LG h;exact alH):=LG h;exact zsr):=LG h;exact auA
def aG5 (w:LK)(p tb aw no:Nat)(aQ:Option Addr)(st dk:Bool)(dj:Option Addr)(kn cY:Nat)(tx:LW)(Q:LK->Prop)(c0:w.cell? (LD p 0)=some (LJ 13))(c3:w.cell? (LD p 3)=some (.slice dj kn cY))
  (cg:w.cell? (LD tb 0)=some (.map (some aw))) (hnum:∀ X,LX w X->(Instr.lookup 44 (.map (some aw)) (LC p) false).run prog X=.ok (LJ (no:Int)) X) (c1:w.cell? (LD p 1)=some (LQ tx))
  (bB:∀ X,LX w X->MC 118 #[LC p] X λe w'=>e=MN (L9 dk)/\w'=X)
  (h9:∀ X b nv,LX w X->w.heap.size<=b->X.heap[b]? = some (UN no nv false (.pointer aQ))->Na w.heap.size X nv [tx]->MC 127 #[MX tb,.slice dj kn cY,Pv (MX b) (st||dk)] X λe w'=>e=MN (.tuple #[])/\Q w') :
  MC 68 #[MX tb,LC p,Pv (.pointer aQ) st] w λe w'=>e=MN (.tuple #[])/\Q w':=by
 have A{G}(h:G:=by
 have es:=hide c1;clear bB h9 hnum cg c1
 cases st with
 | true=>
  rw[zalco] at gY;have A{G}(h:G:=by
  have A{G}(h:G:=by
  have b9:Hid (w2.cell? (LD p 1)=some (LQ tx)):=Md bj.out es.out;have A{G}(h:G:=by
  refine MR 14 (λX=>LX w2 X) Nw ?_;rw[<-cb];clear cb;have A{G}(h:G:=by
  have A{G}(h:G:=by
  have A{G}(h:G:=by
  refine cm (Ur aQ true no en [tx].length 1 false none aq) ?_;have A{G}(h:G:=by
  have A{G}(h:G:=by
  have A{G}(h:G:=by
  refine Qh 14 λK U=>?_;have A{G}(h:G:=by
  have oL:Hid (wz.heap[a']? = some (UN no (.slice en [tx].length 1) false (.pointer aQ))):=(hset _ LM).trans iP;have j8:Hid (Na w.heap.size wz (.slice en [tx].length 1) [tx]):=Ob (L8 (I:=λb=>w2.heap.size<=b) (λb D _=>hset b (by have E:w2.heap.size<=b:=D;omega)) (λb D=>(Me gM b D).2) gM) LM
  exact aCL):=LG h;go_simp;exact aAB):=LG h;exact aqG):=LG h;exact auI):=LG h;exact alB):=LG h;exact az5):=LG h;exact abX):=LG h;exact an4):=LG h;exact af0):=LG h;exact alH):=LG h;exact zsx
 | false=>
  rw[zalbn] at gY;have A{G}(h:G:=by
  have A{G}(h:G:=by
  have b9:Hid (w2.cell? (LD p 1)=some (LQ tx)):=Md bj.out es.out;have A{G}(h:G:=by
  refine MR 14 (λX=>LX w2 X) Nw ?_;have A{G}(h:G:=by
  have A{G}(h:G:=by
  have A{G}(h:G:=by
  refine cm (Ur aQ dk no en [tx].length 1 false none aq) ?_;have A{G}(h:G:=by
  have A{G}(h:G:=by
  refine Qh 14 λK U=>?_;have A{G}(h:G:=by
  have oL:Hid (wz.heap[a']? = some (UN no (.slice en [tx].length 1) false (.pointer aQ))):=(hset _ LM).trans iP;have j8:Hid (Na w.heap.size wz (.slice en [tx].length 1) [tx]):=Ob (L8 (I:=λb=>w2.heap.size<=b) (λb D _=>hset b (by have E:w2.heap.size<=b:=D;omega)) (λb D=>(Me gM b D).2) gM) LM
  exact aCN):=LG h;go_simp;exact aAE):=LG h;exact aue):=LG h;exact alB):=LG h;exact az5):=LG h;exact abX):=LG h;exact auu):=LG h;exact af0):=LG h;exact alH):=LG h;exact zsr):=LG h;exact auA
def tlF (w:LK)(p tb bC:Nat)(aQ:Option Addr)(st dk e9:Bool)(g kn cY:Nat)(kd:Int)(rE:Option Addr)(vk rF:Nat)(R:LK->LK->LY->Prop)(Q:LK->Prop)(c0:w.cell? (LD p 0)=some (LJ kd))(c3:w.cell? (LD p 3)=some (.slice (some (LD g 0)) kn cY))(d1:w.cell? (LD g 1)=some (LC bC))(dR:w.cell? (LD bC 3)=some (.slice rE vk rF))(yI:2<=kn)(fD:kd=5\/kd=37)
  (bB:∀ X,LX w X->MC 118 #[LC p] X λe w'=>e=MN (L9 dk)/\w'=X)
  (iq:∀ X,LX w X->MC 128 #[MX tb,LC p,Pv (.pointer aQ) (st||dk)] X λe w'=>(∃ b0,e=MN (Pv b0 e9)/\R X w' b0)/\LX X w')
  (h9:∀ X Y b0,LX w X->R X Y b0->LX X Y->MC 127 #[MX tb,.slice rE vk rF,Pv b0 e9] Y λe w'=>e=MN (.tuple #[])/\Q w') :
  MC 68 #[MX tb,LC p,Pv (.pointer aQ) st] w λe w'=>e=MN (.tuple #[])/\Q w':=by
 have bF:=cell_lt c0;have de:=cell_lt d1;have eZ:=cell_lt dR;have hm:¬ kn=0:=LM;have eH:¬ (kn:Int)<=1:=LM;have cK:=hide c3;have js:=hide d1;have ju:=hide dR;have dm:=hide bB;have jv:=hide iq;have gY:=hide h9;clear bB h9 iq c3 d1 dR yI
 rcases fD with rfl|rfl
 all_goals
  cases st with
  | true=>
   rw[zalco] at jv;have fJ:LX w (w.alloc (.cells #[.pointer aQ,L9 true] 112)):=Qn;obtain⟨w2,bW⟩:∃ w2,w2=w.alloc (.cells #[.pointer aQ,L9 true] 112):=⟨_,rfl⟩;have bj:Hid (LX w w2):=by show Below _ _ _;rw[bW];exact Qn
   have cU:Hid (w2.heap[w.heap.size]? = some (NK #[.pointer aQ,L9 true] 112)):=by show _=_;rw[bW];exact LP _ _
   have f6:=hide bW;clear bW;go_enter func68,ntmps68;go_wp2_with fail;rw[<-f6.out];have fj:Hid (w2.cell? (LD w.heap.size 0)=some (.pointer aQ)):=by show _=_;rw[cell_of cU.out];rfl
   have ea:Hid (w2.cell? (LD w.heap.size 1)=some (L9 true)):=by show _=_;rw[cell_of cU.out];rfl
   have em:=hide (Md bj.out cK.out);have jt:=hide (Md bj.out js.out);have kG:=hide (Md bj.out ju.out);obtain⟨wd,cb⟩:∃ wd,wd=w2.drew:=⟨_,rfl⟩;have aE:LX w2 wd:=by rw[cb];exact O4.drew
   refine MR 14 (λX=>LX w2 X) Nw ?_;rw[<-cb];clear cb;refine uh 0 (MX tb) aE ?_;refine uh 1 (LC p) aE ?_;refine uh 2 (LC p) aE ?_;refine uh 3 (Mc p 3) aE ?_;refine uc 4 (.slice (some (LD g 0)) kn cY) rfl (zalad ⟨by kernel_rfl,λX aB=>by have aJ:=Md aB em.out;go_simp⟩) aE ?_
   refine uh 5 (Mc g 1) aE ?_;refine uc 6 (LC bC) rfl (zalad ⟨by kernel_rfl,λX aB=>by have aJ:=Md aB jt.out;go_simp⟩) aE ?_
   refine uh 7 (LC bC) aE ?_;refine uh 8 (Mc bC 3) aE ?_;refine uc 9 (.slice rE vk rF) rfl (zalad ⟨by kernel_rfl,λX aB=>by have aJ:=Md aB kG.out;go_simp⟩) aE ?_
   refine uh 10 (MX tb) aE ?_;refine uh 11 (LC p) aE ?_;refine uc 12 (Pv (.pointer aQ) true) rfl (zalad ⟨by kernel_rfl,λX aB=>by have aJ:=Md aB fj.out;have E:=Md aB ea.out;go_simp⟩) aE ?_
   refine Qh 13 λK U=>?_;go_simp;refine cm (Lu jv _ (bj.out.trans (aE.mono bj.out.size))) ?_;rintro e cM ⟨⟨zF,rfl,jg⟩,eT⟩;have gb:LX w2 cM:=aE.trans (eT.mono aE.size);refine U.out _ _ (λ_=>gb) ?_;clear U K;refine Qh 14 λK U=>?_;go_simp;refine cm (Lu gY wd cM zF (bj.out.trans (aE.mono bj.out.size)) jg eT) ?_;rintro e gm ⟨rfl,mu⟩;refine U.out _ _ (λe=>by cases e) ?_;clear U K;refine UW Nw ?_ _;have pY:=hide mu;clear mu jg;go_simp;go_wp2_with fail;exact Ug (v:=.tuple #[]) ⟨rfl,pY.out⟩
  | false=>
   rw[zalbn] at jv;have fJ:LX w (w.alloc (.cells #[.pointer aQ,L9 false] 112)):=Qn;obtain⟨w2,bW⟩:∃ w2,w2=w.alloc (.cells #[.pointer aQ,L9 dk] 112):=⟨_,rfl⟩;have bj:Hid (LX w w2):=by show Below _ _ _;rw[bW];exact Qn
   have cU:Hid (w2.heap[w.heap.size]? = some (NK #[.pointer aQ,L9 dk] 112)):=by show _=_;rw[bW];exact LP _ _
   have f6:=hide bW;clear bW;go_enter func68,ntmps68;go_wp2_with fail;refine cm (Lu dm _ fJ) ?_;rintro e gR ⟨rfl,k8⟩;rw[k8];clear k8 gR;go_wp2_with fail;rw[<-f6.out];have fj:Hid (w2.cell? (LD w.heap.size 0)=some (.pointer aQ)):=by show _=_;rw[cell_of cU.out];rfl
   have ea:Hid (w2.cell? (LD w.heap.size 1)=some (L9 dk)):=by show _=_;rw[cell_of cU.out];rfl
   have em:=hide (Md bj.out cK.out);have jt:=hide (Md bj.out js.out);have kG:=hide (Md bj.out ju.out);obtain⟨wd,cb⟩:∃ wd,wd=w2.drew:=⟨_,rfl⟩;have aE:LX w2 wd:=by rw[cb];exact O4.drew
   refine MR 14 (λX=>LX w2 X) Nw ?_;rw[<-cb];clear cb;refine uh 0 (MX tb) aE ?_;refine uh 1 (LC p) aE ?_;refine uh 2 (LC p) aE ?_;refine uh 3 (Mc p 3) aE ?_;refine uc 4 (.slice (some (LD g 0)) kn cY) rfl (zalad ⟨by kernel_rfl,λX aB=>by have aJ:=Md aB em.out;go_simp⟩) aE ?_
   refine uh 5 (Mc g 1) aE ?_;refine uc 6 (LC bC) rfl (zalad ⟨by kernel_rfl,λX aB=>by have aJ:=Md aB jt.out;go_simp⟩) aE ?_
   refine uh 7 (LC bC) aE ?_;refine uh 8 (Mc bC 3) aE ?_;refine uc 9 (.slice rE vk rF) rfl (zalad ⟨by kernel_rfl,λX aB=>by have aJ:=Md aB kG.out;go_simp⟩) aE ?_
   refine uh 10 (MX tb) aE ?_;refine uh 11 (LC p) aE ?_;refine uc 12 (Pv (.pointer aQ) dk) rfl (zalad ⟨by kernel_rfl,λX aB=>by have aJ:=Md aB fj.out;have E:=Md aB ea.out;go_simp⟩) aE ?_
   refine Qh 13 λK U=>?_;go_simp;refine cm (Lu jv _ (bj.out.trans (aE.mono bj.out.size))) ?_;rintro e cM ⟨⟨zF,rfl,jg⟩,eT⟩;have gb:LX w2 cM:=aE.trans (eT.mono aE.size);refine U.out _ _ (λ_=>gb) ?_;clear U K;refine Qh 14 λK U=>?_;go_simp;refine cm (Lu gY wd cM zF (bj.out.trans (aE.mono bj.out.size)) jg eT) ?_;rintro e gm ⟨rfl,mu⟩;refine U.out _ _ (λe=>by cases e) ?_;clear U K;refine UW Nw ?_ _;have pY:=hide mu;clear mu jg;go_simp;go_wp2_with fail;exact Ug (v:=.tuple #[]) ⟨rfl,pY.out⟩
