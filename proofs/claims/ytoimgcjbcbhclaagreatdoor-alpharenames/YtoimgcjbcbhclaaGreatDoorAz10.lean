import Derived.Test.YtoimgcjbcbhclaaGreatDoorAz5
import Derived.Deep.MidRow
import Derived.Laws.AppendOwnNone
set_option maxRecDepth 100000
set_option maxHeartbeats 0
set_option linter.all false
namespace Go.Proofs.YtoimgcjbcbhclaaGreatDoor
open Go.RowKit Go.Proofs.Tryz
def zalfL {α β γ:Type}(r:PR α)(f:α->Nat->PR β)(g:β->Nat->PR γ):(r.bind f).bind g=r.bind λx i=>(f x i).bind g:=by cases r <;> rfl
def aGN {c:Ctx}{F:OQ}(ai:FC c F)(aN:∃ k,VW c.l k F)(w:LK)(d i a6:Nat)(h:Ol c w i d)(aA:MG c.l Uu i=.ok () a6)(er:Int)(p:Nat)(D:MV c.l F d a6=.bad er p):MC 170 #[Nz c] w (OV c w d (NV w.heap.size) (.bad er p)):=by
 obtain⟨sh,b4,bL,bM,bP⟩:=zalbl info22;have A{G}(h:G:=by
 have br{G}(h:G:=by
 have A{G}(h:G:=by
 exact⟨rfl,O3 rfl (wD.out.next aa)⟩):=LG h;exact U8):=LG h;exact ztr):=LG h;exact TL
section
variable {c:Ctx} {F:OQ} (ai:FC c F) (aN:∃ k,VW c.l k F) (w:LK) (d i a6:Nat) (h:Ol c w i d) (aA:MG c.l Uu i=.ok () a6) (b:Tr) (az:Nat) (D:MV c.l F d a6=.ok b az)
include c F ai aN w d i a6 h aA b az D
def arR (am:fx c.l az≠Qv)(an:fx c.l az≠Ox):MC 170 #[Nz c] w (OV c w d (NV w.heap.size) (.bad 3 (MJ c.l az).pl)):=by
 have A{G}(h:G:=by
 have A{G}(h:G:=by
 have br{G}(h:G:=by
 have ag:=hide (Sr c Ox ax az d fi.out an);go_wp2_with fail;refine NJ ?_;rintro e cT ⟨rfl,D⟩;have ig:=hide (fi.out.later D);have iH:=hide (dh.out.next (Ap.of D));replace bI:=hide (Open.later bI.out (Ap.of D) a1.out);clear D;have A{G}(h:G:=by
 rw[fv.out] at gu;have ag:=hide (UE c 3 cT az d ig.out);go_wp2_with fail;refine NJ ?_;rintro e gm ⟨rfl,mX⟩;exact⟨rfl,O3 rfl (iH.out.next (Ap.of mX))⟩):=LG h;exact ab5):=LG h;exact azt):=LG h;exact aqz):=LG h;exact zsd
def avQ (am:fx c.l az≠Qv)(an:fx c.l az=Ox)(a':Tr)(aX:Nat)(a5:MV c.l F d (az+1)=.ok a' aX):MC 170 #[Nz c] w (OV c w d (NV w.heap.size) (.ok (.mk 12 LH 0 [b,.mk 14 LH 0 [a']]) aX)):=by
 have dl:=hide h.base.size;have A{G}(h:G:=by
 have ht:=hide gg;have A{G}(h:G:=by
 have A{G}(h:G:=by
 have A{G}(h:G:=by
 go_wp2_with fail;refine WG (H:=λax bu=>Ap c.R cT.heap.size cT ax/\Ol c ax aX d/\Nj (From cT.heap.size) ax a' bu) (G:=?G1) (λez=>?_) ?_;rotate_left
 ·refine zlb ?_;refine wt 5 (Nz c) ?_;refine wr2 4 6 (λK U=>?_) λK U=>?_
  ·go_simp;refine Qd ?_;clear U K;refine O7 6 λK U=>?_;go_simp;refine cm fZ.out ?_;have A{G}(h:G:=by
   have cW:=((Ap.refl c.R cT.heap.size cT).drew).next aa;have fb:Hid (Ap c.R cT.heap.size cT ax/\Ol c ax aX d/\Nj (From cT.heap.size) ax a' bu):=⟨cW,aY,jZ⟩;exact aC1):=LG h;exact alL
  ·go_simp;refine cm fZ.out ?_;have A{G}(h:G:=by
   have cW:=((Ap.refl c.R cT.heap.size cT).drew).next aa;have fb:Hid (Ap c.R cT.heap.size cT ax/\Ol c ax aX d/\Nj (From cT.heap.size) ax a' bu):=⟨cW,aY,jZ⟩;exact aCI):=LG h;exact alL
 intro ax bu dC;obtain⟨cW,aY,jZ⟩:=dC;have dh:=hide (iH.out.next cW);have nn:=hide cW;have fi:=hide aY;have b':=hide (Open.later bI.out cW a1.out);have g7:=hide jZ;obtain⟨dW,dX,d3⟩:=b'.out.cell;have mh:bq<ax.heap.size+1:=LM;have mi:bq<ax.heap.size+1+1:=LM;obtain⟨e1,e2,fE⟩:=made (w:=cT) fi.out nn.out (LU.cons g7.out LU.nil) (by simp[maxLen]) #[LC bu] rfl 1 rfl 14 LH (ax.heap.size+1) rfl
 have eO:LX ax ((ax.alloc (.cells #[LC bu] 22)).alloc (MB 14 LH 0 (.slice (some (LD ax.heap.size 0)) 1 1))):=Qn.alloc MP _;obtain⟨wd,cb⟩:∃ wd,wd=(ax.alloc (.cells #[LC bu] 22)).alloc (MB 14 LH 0 (.slice (some (LD ax.heap.size 0)) 1 1)):=⟨_,rfl⟩;have ac:(ax.alloc (.cells #[LC bu] 22)).heap.size=ax.heap.size+1:=by simp
 obtain⟨q,d4⟩:∃ q,q=ax.heap.size+1:=⟨_,rfl⟩;obtain⟨gz,kk,hS⟩:=e1.nv;have gL:gz=ax.heap.size+1:=by simpa[LC] using kk.symm
 subst gL;have c6:wd.heap.size=q+1:=by rw[cb,d4];simp
 rw[<-cb] at hS e2 fE eO
 try rw[ac]
 rw[<-d4] at hS
 try rw[<-d4]
 try rw[<-cb]
 have gF:=hide (Open.later b'.out (Ap.of eO) a1.out);have i2:=hide (dh.out.next (Ap.of eO));have md:=hide e2;have nD:=hide (Open.apart bI.out iH.out.size fE a1.out (LU.cons hS LU.nil));obtain⟨ke,kf,mO⟩:=gF.out.cell;clear kk cb d4 ac dW dX d3 mh mi;have hlen:=LU.length _ _ gF.out.kids;have hown:=gF.out.row;rw[hlen] at hown;have HOWN:=hide hown;have bK:=i2.out.size;have ex:cg.kids.length<=3:=by rw[fv.out];decide
 clear hlen;refine O7 10 λK U=>?_;refine step_append_lies _ rfl _ _ 46 rfl w.heap.size 22 sh Pe 1 8 zalbk b4 bL bM bP rfl MK _ _ _ rfl (HOWN.out.alloc _) (LD (q+1) 0) 1 1 [LC q] rfl rfl (OT wd q _ c6) (one_one q) MK (by unfold maxLen;omega) LM OM (wd.heap.size+1) MP ?_
 clear c6;intro g cap aq hown3 dD dc _;refine U _ _ ?_;clear U K;have cD:=hide (XH gF.out nD.out md.out i2.out dl.out hown3 dD dc);have df:aq.cell? (LD bq 3)=wd.cell? (LD bq 3)/\aq.frozen? (LD bq 3)=wd.frozen? (LD bq 3):=aof
 obtain⟨ek,el⟩:=df;rw[ke] at ek;rw[kf 3] at el;clear dc;refine wt 11 (LC bq) ?_;refine wt 12 (Mc bq 3) ?_;refine O7 13 λK U=>?_;go_simp;refine U _ _ ?_;clear U K ek el ke kf mO;refine zalec Nw ?_ _;go_simp;obtain⟨bZ,cf,cx⟩:=Lu cD;obtain⟨iY,gh⟩:∃ ow:Tr,ow=.mk cg.kd cg.tx cg.n (cg.kids++[.mk 14 LH 0 [a']]):=⟨_,rfl⟩;rw[<-gh] at bZ;have oJ:Hid (iY.kids.length=cg.kids.length+1):=by
  show _=_
  rw[gh];simp[Tr.kids]
 have sU:=hide gh;obtain⟨nb,uz,wn,je,hopz⟩:=bZ.opens;have kl:nb=bq:=by simpa[LC] using je.symm
 rw[kl] at hopz;obtain⟨bh,iy⟩:∃ bh,bh=(aq.setCell (LD bq 3) (.slice (some (LD g 0)) (cg.kids.length+1) cap)):=⟨_,rfl⟩;rw[<-iy] at hopz cf cx;rw[<-iy];have bI:=hide hopz;have xe:=hide cf;have wy:=hide cx;clear je iy kl gh;obtain⟨gu,ja,ed⟩:=bI.out.cell;obtain⟨eq,uc,ji⟩:=bI.out.shape;subst ji;have cq:iY.kids.length=2:=by rw[oJ.out,fv.out]
 rw[cq] at gu;clear cq;go_wp2;go_ret;have dH:=Lu ht;have aW:=Lu sU;have hF:=bI.out.ev.nv;rw[aW,dH] at hF;exact RF rfl hF xe.out wy.out):=LG h;exact ab5):=LG h;exact aAp):=LG h;exact aqz):=LG h;exact zsd
def amm (am:fx c.l az≠Qv)(an:fx c.l az=Ox)(er:Int)(p:Nat)(a5:MV c.l F d (az+1)=.bad er p):MC 170 #[Nz c] w (OV c w d (NV w.heap.size) (.bad er p)):=by
 have A{G}(h:G:=by
 have A{G}(h:G:=by
 have A{G}(h:G:=by
 have A{G}(h:G:=by
 go_wp2_with fail;refine zlb ?_;refine wt 5 (Nz c) ?_;refine wr2 4 6 (λK U=>?_) λK U=>?_
 ·go_simp;refine Qd ?_;clear U K;refine O7 6 λK U=>?_;go_simp;exact aze
 ·go_simp;exact aze):=LG h;exact ab5):=LG h;exact aAp):=LG h;exact aqz):=LG h;exact zsd
def aav (am:fx c.l az=Qv)(er:Int)(p:Nat)(ac:MG c.l NZ (az+1)=.bad er p\/∃ aX,MG c.l NZ (az+1)=.ok () aX/\(nameP c.l aX=.bad er p\/∃ s ca,nameP c.l aX=.ok s ca/\(MG c.l OX ca=.bad er p\/∃ gi,MG c.l OX ca=.ok () gi/\MV c.l F d gi=.bad er p))):MC 170 #[Nz c] w (OV c w d (NV w.heap.size) (.bad er p)):=by
 have aG:=hide ac;clear ac;have A{G}(h:G:=by
 have A{G}(h:G:=by
 have br{G}(h:G:=by
 rcases aG.out with O|⟨aX,O,ac⟩
 ·rw[O] at ag;have A{G}(h:G:=by
  exact⟨rfl,O3 rfl (dh.out.next aa)⟩):=LG h;exact U8
 have aG:=hide ac;clear ac;have br{G}(h:G:=by
 rcases aG.out with ao|⟨s,ca,ao,ac⟩
 ·rw[ao] at ag;have A{G}(h:G:=by
  exact⟨rfl,O3 rfl (i2.out.next aa)⟩):=LG h;exact U8
 have aG:=hide ac;clear ac;have br{G}(h:G:=by
 rcases aG.out with aM|⟨gi,aM,bw⟩
 ·rw[aM] at ag;have A{G}(h:G:=by
  exact⟨rfl,O3 rfl (zR.out.next aa)⟩):=LG h;exact U8
 have br{G}(h:G:=by
 have A{G}(h:G:=by
 go_wp2_with fail;refine zlb ?_;refine wt 5 (LQ s) ?_;refine wt 6 (Nz c) ?_;refine wr2 4 7 (λK U=>?_) λK U=>?_
 ·go_simp;refine Qd ?_;clear U K;refine O7 7 λK U=>?_;go_simp;exact azc
 ·go_simp;exact azc):=LG h;exact ab5):=LG h;exact ztt):=LG h;exact azp):=LG h;exact azs):=LG h;exact zty):=LG h;exact aqz):=LG h;exact zsd
def aoL (am:fx c.l az=Qv)(aX:Nat)(O:MG c.l NZ (az+1)=.ok () aX)(s:LW)(ca:Nat)(ao:nameP c.l aX=.ok s ca)(gi:Nat)(aM:MG c.l OX ca=.ok () gi)(a':Tr)(ff:Nat)(bw:MV c.l F d gi=.ok a' ff)(an:fx c.l ff≠Ox):MC 170 #[Nz c] w (OV c w d (NV w.heap.size) (.ok (.mk 12 LH 0 [b,.mk 13 s 0 [a']]) ff)):=by
 have dl:=hide h.base.size;have A{G}(h:G:=by
 have ht:=hide gg;have A{G}(h:G:=by
 refine WG (H:=λax bu=>Ap c.R iZ.heap.size iZ ax/\Ol c ax ff d/\Nj (From iZ.heap.size) ax a' bu) (G:=?G2) (λez=>?_) ?_;rotate_left
 ·exact avp
 intro ax bu dC;obtain⟨cW,aY,jZ⟩:=dC;have dh:=hide (pF.out.next cW);have nn:=hide cW;have fi:=hide aY;have b':=hide (Open.later bI.out cW a1.out);have g7:=hide jZ;obtain⟨dW,dX,d3⟩:=b'.out.cell;have mh:bq<ax.heap.size+1:=LM;have mi:bq<ax.heap.size+1+1:=LM;obtain⟨e1,e2,fE⟩:=made (w:=iZ) fi.out nn.out (LU.cons g7.out LU.nil) (by simp[maxLen]) #[LC bu] rfl 1 rfl 13 s (ax.heap.size+1) rfl
 have eO:LX ax ((ax.alloc (.cells #[LC bu] 22)).alloc (MB 13 s 0 (.slice (some (LD ax.heap.size 0)) 1 1))):=Qn.alloc MP _;obtain⟨wd,cb⟩:∃ wd,wd=(ax.alloc (.cells #[LC bu] 22)).alloc (MB 13 s 0 (.slice (some (LD ax.heap.size 0)) 1 1)):=⟨_,rfl⟩;have ac:(ax.alloc (.cells #[LC bu] 22)).heap.size=ax.heap.size+1:=by simp
 obtain⟨q,d4⟩:∃ q,q=ax.heap.size+1:=⟨_,rfl⟩;obtain⟨gz,kk,hS⟩:=e1.nv;have gL:gz=ax.heap.size+1:=by simpa[LC] using kk.symm
 subst gL;have c6:wd.heap.size=q+1:=by rw[cb,d4];simp
 rw[<-cb] at hS e2 fE eO
 try rw[ac]
 rw[<-d4] at hS
 try rw[<-d4]
 try rw[<-cb]
 have gF:=hide (Open.later b'.out (Ap.of eO) a1.out);have i2:=hide (dh.out.next (Ap.of eO));have md:=hide e2;have nD:=hide (Open.apart bI.out pF.out.size fE a1.out (LU.cons hS LU.nil));obtain⟨ke,kf,mO⟩:=gF.out.cell;clear kk cb d4 ac dW dX d3 mh mi;have hlen:=LU.length _ _ gF.out.kids;have hown:=gF.out.row;rw[hlen] at hown;have HOWN:=hide hown;have bK:=i2.out.size;have ex:cg.kids.length<=3:=by rw[fv.out];decide
 clear hlen;refine O7 11 λK U=>?_;refine step_append_lies _ rfl _ _ 46 rfl w.heap.size 22 sh Pe 1 8 zalbk b4 bL bM bP rfl MK _ _ _ rfl (HOWN.out.alloc _) (LD (q+1) 0) 1 1 [LC q] rfl rfl (OT wd q _ c6) (one_one q) MK (by unfold maxLen;omega) LM OM (wd.heap.size+1) MP ?_
 clear c6;intro g cap aq hown3 dD dc _;refine U _ _ ?_;clear U K;have cD:=hide (XH gF.out nD.out md.out i2.out dl.out hown3 dD dc);have df:aq.cell? (LD bq 3)=wd.cell? (LD bq 3)/\aq.frozen? (LD bq 3)=wd.frozen? (LD bq 3):=aof
 obtain⟨ek,el⟩:=df;rw[ke] at ek;rw[kf 3] at el;clear dc;refine wt 12 (LC bq) ?_;refine wt 13 (Mc bq 3) ?_;refine O7 14 λK U=>?_;go_simp;refine U _ _ ?_;clear U K ek el ke kf mO;refine zalec Nw ?_ _;go_simp;obtain⟨bZ,cf,cx⟩:=Lu cD;obtain⟨iY,gh⟩:∃ ow:Tr,ow=.mk cg.kd cg.tx cg.n (cg.kids++[.mk 13 s 0 [a']]):=⟨_,rfl⟩;rw[<-gh] at bZ;have oJ:Hid (iY.kids.length=cg.kids.length+1):=by
  show _=_
  rw[gh];simp[Tr.kids]
 have sU:=hide gh;obtain⟨nb,uz,wn,je,hopz⟩:=bZ.opens;have kl:nb=bq:=by simpa[LC] using je.symm
 rw[kl] at hopz;obtain⟨bh,iy⟩:∃ bh,bh=(aq.setCell (LD bq 3) (.slice (some (LD g 0)) (cg.kids.length+1) cap)):=⟨_,rfl⟩;rw[<-iy] at hopz cf cx;rw[<-iy];have bI:=hide hopz;have ro:=hide cf;have sw:=hide cx;clear je iy kl gh;have ag:=hide (Sr c Ox bh ff d ro.out an);go_wp2_with fail;refine cm ag.out ?_;rintro e wz ⟨rfl,D⟩;have sR:=hide (ro.out.later D);have q3:=hide (sw.out.next (Ap.of D));replace bI:=hide (Open.later bI.out (Ap.of D) a1.out);clear D;obtain⟨gu,ja,ed⟩:=bI.out.cell
 obtain⟨eq,uc,ji⟩:=bI.out.shape;subst ji;have cq:iY.kids.length=2:=by rw[oJ.out,fv.out]
 rw[cq] at gu;clear cq;go_wp2;go_ret;have dH:=Lu ht;have aW:=Lu sU;have hF:=bI.out.ev.nv;rw[aW,dH] at hF;exact RF rfl hF sR.out q3.out):=LG h;exact zsn):=LG h;exact zsd
end
def aGO {c:Ctx}(w:LK)(d i:Nat)(h:Ol c w i d)(er:Int)(p:Nat)(aA:MG c.l Uu i=.bad er p):MC 170 #[Nz c] w (OV c w d (NV w.heap.size) (.bad er p)):=by
 have A{G}(h:G:=by
 go_enter func170,ntmps170;have ag:=hide (NR c Uu w i d cO.out MK);rw[aA] at ag;have A{G}(h:G:=by
 exact⟨rfl,O3 rfl (fG.out.next aa)⟩):=LG h;exact U8):=LG h;exact TL
section
variable {c:Ctx} {F:OQ} (ai:FC c F) (aN:∃ k,VW c.l k F) (w:LK) (d i a6:Nat) (h:Ol c w i d) (aA:MG c.l Uu i=.ok () a6) (b:Tr) (az:Nat) (D:MV c.l F d a6=.ok b az) (am:fx c.l az=Qv) (aX:Nat) (O:MG c.l NZ (az+1)=.ok () aX) (s:LW) (ca:Nat) (ao:nameP c.l aX=.ok s ca) (gi:Nat) (aM:MG c.l OX ca=.ok () gi) (a':Tr) (ff:Nat) (bw:MV c.l F d gi=.ok a' ff) (an:fx c.l ff=Ox)
include c F ai aN w d i a6 h aA b az D am aX O s ca ao gi aM a' ff bw an
def arS (cV:Tr)(my:Nat)(h6:MV c.l F d (ff+1)=.ok cV my):MC 170 #[Nz c] w (OV c w d (NV w.heap.size) (.ok (.mk 12 LH 0 [b,.mk 13 s 0 [a'],.mk 14 LH 0 [cV]]) my)):=by
 have dl:=hide h.base.size;have A{G}(h:G:=by
 have ht:=hide gg;have A{G}(h:G:=by
 refine WG (H:=λax bu=>Ap c.R iZ.heap.size iZ ax/\Ol c ax ff d/\Nj (From iZ.heap.size) ax a' bu) (G:=?G3) (λez=>?_) ?_;rotate_left
 ·exact avp
 intro ax bu dC;obtain⟨cW,aY,jZ⟩:=dC;have dh:=hide (pF.out.next cW);have nn:=hide cW;have fi:=hide aY;have b':=hide (Open.later bI.out cW a1.out);have g7:=hide jZ;obtain⟨dW,dX,d3⟩:=b'.out.cell;have mh:bq<ax.heap.size+1:=LM;have mi:bq<ax.heap.size+1+1:=LM;obtain⟨e1,e2,fE⟩:=made (w:=iZ) fi.out nn.out (LU.cons g7.out LU.nil) (by simp[maxLen]) #[LC bu] rfl 1 rfl 13 s (ax.heap.size+1) rfl
 have eO:LX ax ((ax.alloc (.cells #[LC bu] 22)).alloc (MB 13 s 0 (.slice (some (LD ax.heap.size 0)) 1 1))):=Qn.alloc MP _;obtain⟨wd,cb⟩:∃ wd,wd=(ax.alloc (.cells #[LC bu] 22)).alloc (MB 13 s 0 (.slice (some (LD ax.heap.size 0)) 1 1)):=⟨_,rfl⟩;have ac:(ax.alloc (.cells #[LC bu] 22)).heap.size=ax.heap.size+1:=by simp
 obtain⟨q,d4⟩:∃ q,q=ax.heap.size+1:=⟨_,rfl⟩;obtain⟨gz,kk,hS⟩:=e1.nv;have gL:gz=ax.heap.size+1:=by simpa[LC] using kk.symm
 subst gL;have c6:wd.heap.size=q+1:=by rw[cb,d4];simp
 rw[<-cb] at hS e2 fE eO
 try rw[ac]
 rw[<-d4] at hS
 try rw[<-d4]
 try rw[<-cb]
 have gF:=hide (Open.later b'.out (Ap.of eO) a1.out);have i2:=hide (dh.out.next (Ap.of eO));have md:=hide e2;have nD:=hide (Open.apart bI.out pF.out.size fE a1.out (LU.cons hS LU.nil));obtain⟨ke,kf,mO⟩:=gF.out.cell;clear kk cb d4 ac dW dX d3 mh mi;have hlen:=LU.length _ _ gF.out.kids;have hown:=gF.out.row;rw[hlen] at hown;have HOWN:=hide hown;have bK:=i2.out.size;have ex:cg.kids.length<=3:=by rw[fv.out];decide
 clear hlen;refine O7 11 λK U=>?_;refine step_append_lies _ rfl _ _ 46 rfl w.heap.size 22 sh Pe 1 8 zalbk b4 bL bM bP rfl MK _ _ _ rfl (HOWN.out.alloc _) (LD (q+1) 0) 1 1 [LC q] rfl rfl (OT wd q _ c6) (one_one q) MK (by unfold maxLen;omega) LM OM (wd.heap.size+1) MP ?_
 clear c6;intro g cap aq hown3 dD dc _;refine U _ _ ?_;clear U K;have cD:=hide (XH gF.out nD.out md.out i2.out dl.out hown3 dD dc);have df:aq.cell? (LD bq 3)=wd.cell? (LD bq 3)/\aq.frozen? (LD bq 3)=wd.frozen? (LD bq 3):=aof
 obtain⟨ek,el⟩:=df;rw[ke] at ek;rw[kf 3] at el;clear dc;refine wt 12 (LC bq) ?_;refine wt 13 (Mc bq 3) ?_;refine O7 14 λK U=>?_;go_simp;refine U _ _ ?_;clear U K ek el ke kf mO;refine zalec Nw ?_ _;go_simp;obtain⟨bZ,cf,cx⟩:=Lu cD;obtain⟨iY,gh⟩:∃ ow:Tr,ow=.mk cg.kd cg.tx cg.n (cg.kids++[.mk 13 s 0 [a']]):=⟨_,rfl⟩;rw[<-gh] at bZ;have oJ:Hid (iY.kids.length=cg.kids.length+1):=by
  show _=_
  rw[gh];simp[Tr.kids]
 have sU:=hide gh;obtain⟨nb,uz,wn,je,hopz⟩:=bZ.opens;have kl:nb=bq:=by simpa[LC] using je.symm
 rw[kl] at hopz;obtain⟨bh,iy⟩:∃ bh,bh=(aq.setCell (LD bq 3) (.slice (some (LD g 0)) (cg.kids.length+1) cap)):=⟨_,rfl⟩;rw[<-iy] at hopz cf cx;rw[<-iy];have bI:=hide hopz;have ro:=hide cf;have sw:=hide cx;clear je iy kl gh;have ag:=hide (RD c Ox bh ff d ro.out an MK);go_wp2_with fail;refine cm ag.out ?_;rintro e wz ⟨rfl,aY,aa⟩;have sR:=hide aY;have q3:=hide (sw.out.next aa);replace bI:=hide (Open.later bI.out (aa) a1.out);have Aa:Hid (iY.kids.length=2):=by
  show _=_
  rw[oJ.out,fv.out]
 have fZ:=hide (QA ai aN wz.drew d (ff+1) _ rfl (by rw[h6];nofun) sR.out.drew)
 rw[h6] at fZ;obtain⟨gu,ja,ed⟩:=bI.out.cell;obtain⟨eq,uc,ji⟩:=bI.out.shape;subst ji;go_wp2_with fail;refine WG (H:=λax bu=>Ap c.R wz.heap.size wz ax/\Ol c ax my d/\Nj (From wz.heap.size) ax cV bu) (G:=?G4) (λez=>?_) ?_;rotate_left
 ·refine zlb ?_;refine wt 5 (Nz c) ?_;refine wr2 4 6 (λK U=>?_) λK U=>?_
  ·go_simp;refine Qd ?_;clear U K;refine O7 6 λK U=>?_;go_simp;refine cm fZ.out ?_;have A{G}(h:G:=by
   have cW:=((Ap.refl c.R wz.heap.size wz).drew).next aa;have fb:Hid (Ap c.R wz.heap.size wz ax/\Ol c ax my d/\Nj (From wz.heap.size) ax cV bu):=⟨cW,aY,jZ⟩;exact aC1):=LG h;exact alL
  ·go_simp;refine cm fZ.out ?_;have A{G}(h:G:=by
   have cW:=((Ap.refl c.R wz.heap.size wz).drew).next aa;have fb:Hid (Ap c.R wz.heap.size wz ax/\Ol c ax my d/\Nj (From wz.heap.size) ax cV bu):=⟨cW,aY,jZ⟩;exact aCI):=LG h;exact alL
 intro ax bu dC;obtain⟨cW,aY,jZ⟩:=dC;have dh:=hide (q3.out.next cW);have nn:=hide cW;have fi:=hide aY;have b':=hide (Open.later bI.out cW a1.out);have g7:=hide jZ;obtain⟨dW,dX,d3⟩:=b'.out.cell;have mh:bq<ax.heap.size+1:=LM;have mi:bq<ax.heap.size+1+1:=LM;obtain⟨e1,e2,fE⟩:=made (w:=wz) fi.out nn.out (LU.cons g7.out LU.nil) (by simp[maxLen]) #[LC bu] rfl 1 rfl 14 LH (ax.heap.size+1) rfl
 have eO:LX ax ((ax.alloc (.cells #[LC bu] 22)).alloc (MB 14 LH 0 (.slice (some (LD ax.heap.size 0)) 1 1))):=Qn.alloc MP _;obtain⟨wd,cb⟩:∃ wd,wd=(ax.alloc (.cells #[LC bu] 22)).alloc (MB 14 LH 0 (.slice (some (LD ax.heap.size 0)) 1 1)):=⟨_,rfl⟩;have ac:(ax.alloc (.cells #[LC bu] 22)).heap.size=ax.heap.size+1:=by simp
 obtain⟨q,d4⟩:∃ q,q=ax.heap.size+1:=⟨_,rfl⟩;obtain⟨gz,kk,hS⟩:=e1.nv;have gL:gz=ax.heap.size+1:=by simpa[LC] using kk.symm
 subst gL;have c6:wd.heap.size=q+1:=by rw[cb,d4];simp
 rw[<-cb] at hS e2 fE eO
 try rw[ac]
 rw[<-d4] at hS
 try rw[<-d4]
 try rw[<-cb]
 have gF:=hide (Open.later b'.out (Ap.of eO) a1.out);have i2:=hide (dh.out.next (Ap.of eO));have md:=hide e2;have nD:=hide (Open.apart bI.out q3.out.size fE a1.out (LU.cons hS LU.nil));obtain⟨ke,kf,mO⟩:=gF.out.cell;clear kk cb d4 ac dW dX d3 mh mi;have hlen:=LU.length _ _ gF.out.kids;have hown:=gF.out.row;rw[hlen] at hown;have HOWN:=hide hown;have bK:=i2.out.size;have ex:iY.kids.length<=3:=by rw[Aa.out];decide
 clear hlen;refine O7 10 λK U=>?_;refine step_append_lies _ rfl _ _ 46 rfl w.heap.size 22 sh Pe 1 8 zalbk b4 bL bM bP rfl MK _ _ _ rfl (HOWN.out.alloc _) (LD (q+1) 0) 1 1 [LC q] rfl rfl (OT wd q _ c6) (one_one q) MK (by unfold maxLen;omega) LM OM (wd.heap.size+1) MP ?_
 clear c6;intro g cap aq hown3 dD dc _;refine U _ _ ?_;clear U K;have cD:=hide (XH gF.out nD.out md.out i2.out dl.out hown3 dD dc);have df:aq.cell? (LD bq 3)=wd.cell? (LD bq 3)/\aq.frozen? (LD bq 3)=wd.frozen? (LD bq 3):=aof
 obtain⟨ek,el⟩:=df;rw[ke] at ek;rw[kf 3] at el;clear dc;refine wt 11 (LC bq) ?_;refine wt 12 (Mc bq 3) ?_;refine O7 13 λK U=>?_;go_simp;refine U _ _ ?_;clear U K ek el ke kf mO;refine zalec Nw ?_ _;go_simp;obtain⟨bZ,cf,cx⟩:=Lu cD;obtain⟨Dx,gh⟩:∃ ow:Tr,ow=.mk iY.kd iY.tx iY.n (iY.kids++[.mk 14 LH 0 [cV]]):=⟨_,rfl⟩;rw[<-gh] at bZ;have Ej:Hid (Dx.kids.length=iY.kids.length+1):=by
  show _=_
  rw[gh];simp[Tr.kids]
 have Fd:=hide gh;obtain⟨nb,uz,wn,je,hopz⟩:=bZ.opens;have kl:nb=bq:=by simpa[LC] using je.symm
 rw[kl] at hopz;obtain⟨bh,iy⟩:∃ bh,bh=(aq.setCell (LD bq 3) (.slice (some (LD g 0)) (iY.kids.length+1) cap)):=⟨_,rfl⟩;rw[<-iy] at hopz cf cx;rw[<-iy];have bI:=hide hopz;have xe:=hide cf;have wy:=hide cx;clear je iy kl gh;obtain⟨gu,ja,ed⟩:=bI.out.cell;obtain⟨eq,uc,ji⟩:=bI.out.shape;subst ji;have cq:Dx.kids.length=3:=by rw[Ej.out,oJ.out,fv.out]
 rw[cq] at gu;clear cq;go_wp2;go_ret;have dH:=Lu ht;have aW:=Lu sU;have a4:=Lu Fd;have hF:=bI.out.ev.nv;rw[a4,aW,dH] at hF;exact RF rfl hF xe.out wy.out):=LG h;exact zsn):=LG h;exact zsd
def aiW (er:Int)(p:Nat)(h6:MV c.l F d (ff+1)=.bad er p):MC 170 #[Nz c] w (OV c w d (NV w.heap.size) (.bad er p)):=by
 have dl:=hide h.base.size;have A{G}(h:G:=by
 have A{G}(h:G:=by
 refine WG (H:=λax bu=>Ap c.R iZ.heap.size iZ ax/\Ol c ax ff d/\Nj (From iZ.heap.size) ax a' bu) (G:=?G5) (λez=>?_) ?_;rotate_left
 ·exact avp
 intro ax bu dC;obtain⟨cW,aY,jZ⟩:=dC;have dh:=hide (pF.out.next cW);have nn:=hide cW;have fi:=hide aY;have b':=hide (Open.later bI.out cW a1.out);have g7:=hide jZ;obtain⟨dW,dX,d3⟩:=b'.out.cell;have mh:bq<ax.heap.size+1:=LM;have mi:bq<ax.heap.size+1+1:=LM;obtain⟨e1,e2,fE⟩:=made (w:=iZ) fi.out nn.out (LU.cons g7.out LU.nil) (by simp[maxLen]) #[LC bu] rfl 1 rfl 13 s (ax.heap.size+1) rfl
 have eO:LX ax ((ax.alloc (.cells #[LC bu] 22)).alloc (MB 13 s 0 (.slice (some (LD ax.heap.size 0)) 1 1))):=Qn.alloc MP _;obtain⟨wd,cb⟩:∃ wd,wd=(ax.alloc (.cells #[LC bu] 22)).alloc (MB 13 s 0 (.slice (some (LD ax.heap.size 0)) 1 1)):=⟨_,rfl⟩;have ac:(ax.alloc (.cells #[LC bu] 22)).heap.size=ax.heap.size+1:=by simp
 obtain⟨q,d4⟩:∃ q,q=ax.heap.size+1:=⟨_,rfl⟩;obtain⟨gz,kk,hS⟩:=e1.nv;have gL:gz=ax.heap.size+1:=by simpa[LC] using kk.symm
 subst gL;have c6:wd.heap.size=q+1:=by rw[cb,d4];simp
 rw[<-cb] at hS e2 fE eO
 try rw[ac]
 rw[<-d4] at hS
 try rw[<-d4]
 try rw[<-cb]
 have gF:=hide (Open.later b'.out (Ap.of eO) a1.out);have i2:=hide (dh.out.next (Ap.of eO));have md:=hide e2;have nD:=hide (Open.apart bI.out pF.out.size fE a1.out (LU.cons hS LU.nil));obtain⟨ke,kf,mO⟩:=gF.out.cell;clear kk cb d4 ac dW dX d3 mh mi;have hlen:=LU.length _ _ gF.out.kids;have hown:=gF.out.row;rw[hlen] at hown;have HOWN:=hide hown;have bK:=i2.out.size;have ex:cg.kids.length<=3:=by rw[fv.out];decide
 clear hlen;refine O7 11 λK U=>?_;refine step_append_lies _ rfl _ _ 46 rfl w.heap.size 22 sh Pe 1 8 zalbk b4 bL bM bP rfl MK _ _ _ rfl (HOWN.out.alloc _) (LD (q+1) 0) 1 1 [LC q] rfl rfl (OT wd q _ c6) (one_one q) MK (by unfold maxLen;omega) LM OM (wd.heap.size+1) MP ?_
 clear c6;intro g cap aq hown3 dD dc _;refine U _ _ ?_;clear U K;have cD:=hide (XH gF.out nD.out md.out i2.out dl.out hown3 dD dc);have df:aq.cell? (LD bq 3)=wd.cell? (LD bq 3)/\aq.frozen? (LD bq 3)=wd.frozen? (LD bq 3):=aof
 obtain⟨ek,el⟩:=df;rw[ke] at ek;rw[kf 3] at el;clear dc;refine wt 12 (LC bq) ?_;refine wt 13 (Mc bq 3) ?_;refine O7 14 λK U=>?_;go_simp;refine U _ _ ?_;clear U K ek el ke kf mO;refine zalec Nw ?_ _;go_simp;obtain⟨bZ,cf,cx⟩:=Lu cD;obtain⟨iY,gh⟩:∃ ow:Tr,ow=.mk cg.kd cg.tx cg.n (cg.kids++[.mk 13 s 0 [a']]):=⟨_,rfl⟩;rw[<-gh] at bZ;have oJ:Hid (iY.kids.length=cg.kids.length+1):=by
  show _=_
  rw[gh];simp[Tr.kids]
 obtain⟨nb,uz,wn,je,hopz⟩:=bZ.opens;have kl:nb=bq:=by simpa[LC] using je.symm
 rw[kl] at hopz;obtain⟨bh,iy⟩:∃ bh,bh=(aq.setCell (LD bq 3) (.slice (some (LD g 0)) (cg.kids.length+1) cap)):=⟨_,rfl⟩;rw[<-iy] at hopz cf cx;rw[<-iy];have bI:=hide hopz;have ro:=hide cf;have sw:=hide cx;clear je iy kl gh;have ag:=hide (RD c Ox bh ff d ro.out an MK);go_wp2_with fail;refine cm ag.out ?_;rintro e wz ⟨rfl,aY,aa⟩;have sR:=hide aY;have q3:=hide (sw.out.next aa);replace bI:=hide (Open.later bI.out (aa) a1.out);have Aa:Hid (iY.kids.length=2):=by
  show _=_
  rw[oJ.out,fv.out]
 have fZ:=hide (QA ai aN wz.drew d (ff+1) _ rfl (by rw[h6];nofun) sR.out.drew)
 rw[h6] at fZ;obtain⟨gu,ja,ed⟩:=bI.out.cell;obtain⟨eq,uc,ji⟩:=bI.out.shape;subst ji;go_wp2_with fail;refine zalfp Nw ?_;change wpAny _ _ _ _ _ _ _ (World.drew _);refine wt 0 (LC bq) ?_;refine wt 1 (LC bq) ?_;refine wt 2 (LC bq) ?_;refine wt 3 (Mc bq 3) ?_;refine wt 5 (Nz c) ?_;refine wr2 4 6 (λK U=>?_) λK U=>?_
 ·go_simp;refine Qd ?_;clear U K;refine O7 6 λK U=>?_;go_simp;exact azd
 ·go_simp;exact azd):=LG h;exact zsn):=LG h;exact zsd
