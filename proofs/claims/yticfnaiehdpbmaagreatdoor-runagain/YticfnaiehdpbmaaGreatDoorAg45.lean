import Derived.Test.YticfnaiehdpbmaaGreatDoorAg43
set_option maxRecDepth 100000
set_option maxHeartbeats 8000000
set_option linter.unusedVariables false
namespace Go.Proofs.YticfnaiehdpbmaaGreatDoor
open Go.RowKit Go.Proofs.Tryz
namespace Hp
section
variable {es:NP} {w w':Ny} {eb:Addr}
theorem arE (hg:Rw w es eb){s:NR}{t:Tr}{p:Nat}{I:Nat->Prop}(al:QK PI Pq s=.ok t)(aA:O7 I w t p):NK 11 #[Nu p] w (Td w t):=by
 obtain⟨a,rfl,rfl,ax,aU,_⟩:=O7.ad t p aA;exact awy hg (QD.mono (fun _ _ _=>trivial) _ ax) aU (fun ai=>(WI al ai).bk Nw) (Vu al).1 (acg al) (Vu al).2
theorem asL:(PY abM).1=.no/\(PY abM).2.log=[⟨#[54]⟩]:=by
 have h:=asM;unfold arF at h
 split at h
 ·rename_i U
  exact⟨U,of_decide_eq_true h⟩
 ·
  cases h
section
variable {t:Tr} {e:Ending}
theorem Yi (h:Td w t e w')(ai:chk t false false false=none):NJ w w'/\∃ aS aB,e=NU (.tuple #[aal aS aB (aam (PY t).1) (PY t).2.steps (acZ (PY t).2.M (PY t).1),Pe])/\w'.ownsRow w.heap.size 9 1 aS (PY t).2.log.length ((PY t).2.log.map Value.string)/\w'.ownsRow w.heap.size 54 2 aB (PY t).2.seen.length ((PY t).2.seen.flatMap sn2):=by
 unfold Td at h;rw[ai] at h;exact h
theorem Yj {er:Int}(h:Td w t e w')(ai:chk t false false false=some er):NJ w w'/\e=NU (.tuple #[aal PG PG 0 0 ⟨#[]⟩,.iface 34 (Nr er)]):=by
 unfold Td at h;rw[ai] at h;exact h
end
theorem awz (hg:Rw w es eb):NK 10 #[] w fun e w'=>e=NU (NI true)/\NJ w w':=by
 have cR:=aan PI Pq Yf w hg.gl.li Xr hg.gl.ta;rw[aey] at cR;have HP:=hide (fun X p (aj:NJ w X) (aA:O7 (From w.heap.size) X abM p)=>arE (hg.later aj) aey aA);obtain⟨av,bC⟩:=asL;obtain⟨iu,gb⟩:=xH (PY abM);rw[<-gb.out] at av bC;have yH:=hide av;have jV:=hide bC;clear av bC;go_enter func10,ntmps10;go_wp2_with fail;refine cm cR ?_;rintro e w1 ⟨p,rfl,aA,D⟩;have gz:=(Ns HP w1 p D aA);clear aA;go_wp2_with fail;refine cm gz ?_;intro e w2 O;obtain⟨aE,aS,aB,rfl,hl,ae⟩:=Yi O asN
 rw[<-gb.out] at hl ⊢;obtain⟨qH,wf⟩:=xE ((PY abM).2.seen.length);obtain⟨n,aA⟩:=xE (iu.2.steps:Int);rw[yH.out,<-aA];rw[jV.out] at hl;obtain⟨j6,aq,jM⟩:=N8 ae;rw[<-wf] at jM;obtain⟨la,hu,qu⟩:=N8 hl;subst jM qu;obtain⟨KR,Ie⟩:=xE (aam .no);obtain⟨ev,br⟩:=xE (acZ iu.2.M .no);rw[<-br];have av:aam .no=1:=rfl;rw[av];obtain⟨ao,p'⟩:=xH (w2.alloc (.cells #[.slice la 1 hu,Nr 1,ND ev,Nr n,.slice j6 qH aq] 29))
 have iI:ao.heap[w2.heap.size]? = some (Og #[.slice la 1 hu,Nr 1,ND ev,Nr n,.slice j6 qH aq] 29):=by rw[p'.out];exact NG _ _
 have bm:NJ w2 ao:=by rw[p'.out];exact OM
 obtain⟨bB,lH⟩:=xH (ao.alloc (.cells #[ND ⟨#[54]⟩] 9));have du:NJ ao bB:=by rw[lH.out];exact OM
 have DL:=bm.trans (du.mono bm.size);have ie:=(D.trans ((aE.trans (DL.mono aE.size)).mono D.size));have xb:=(ail [⟨#[54]⟩] (.slice la 1 hu) (.slice (some (Nv ao.heap.size 0)) 1 1) bB (N9 hl DL) (by rw[lH.out];exact World.ownsRow_lit ao #[ND ⟨#[54]⟩] 1 OH (by unfold maxLen;omega) rfl) NH)
 obtain⟨cy,bQ,b5,d',je,_,rl⟩:=cells5 iI;clear wf aA Ie br av iI
 go_wp2_with (first|rw[<-p'.out] | rw[<-lH.out])
 refine cm xb ?_;rintro e b' ⟨rfl,fv⟩;have iY:=(ie.trans (fv.mono ie.size));go_wp2_with fail;go_ret;exact⟨rfl,iY⟩
theorem asO {t:Tr}(a':Bk t):(aam (PY t).1=1/\acZ (PY t).2.M (PY t).1=⟨#[]⟩/\((PY t).2.steps:Int)<=20000)\/(aam (PY t).1=3/\acZ (PY t).2.M (PY t).1=⟨#[]⟩/\((PY t).2.steps:Int)=20001)\/(aam (PY t).1=2/\((PY t).2.steps:Int)<=20000):=by
 have h:=(aao a').1
 generalize PY t=r at h
 obtain⟨e,σ⟩:=r
 cases e with
 | no=>exact .inl ⟨rfl,rfl,by have:σ.steps<=20000:=h;show (σ.steps:Int)<=20000;omega⟩
 | stop=>exact .inr (.inl ⟨rfl,rfl,by have:σ.steps=20001:=h;show (σ.steps:Int)=20001;omega⟩)
 | Wq v=>exact .inr (.inr ⟨rfl,by have:σ.steps<=20000:=h.1;show (σ.steps:Int)<=20000;omega⟩)
 | mis=>exact h.elim
theorem aoG (s:NR)(hg:Rw w es eb):NK 3 #[ND s] w fun e w'=>e=NU (NI true)/\NJ w w':=by
 have cR:=aan PI Pq s w hg.gl.li Xr hg.gl.ta;have za:=hide (fun X (aj:NJ w X)=>awz (hg.later aj));have jy:=hide (fun X (aj:NJ w X)=>(hg.later aj).et)
 cases al:QK PI Pq s with
 | ok t=>
  rw[al] at cR;have dk:=cR;have GB:=hide (fun X Y p (aj:NJ w X) (cB:NJ X Y) (aA:O7 (From w.heap.size) X t p)=>arE (hg.later (aj.trans (cB.mono aj.size))) al (O7.later (Below.stay cB) _ _ aA))
  cases ai:chk t false false false with
  | some er=>
   have ah:=hide ai;clear al ai;have z:=kk (∀{G}(h:G:=by
   obtain⟨bm,rfl⟩:=Yj ax ah.out;obtain⟨bB,eL⟩:=xE (ao.alloc (.cells #[PG,Nr 0,OG,Nr 0,PG] 29));have oS:bB.heap[ao.heap.size]? = some (Og #[PG,Nr 0,OG,Nr 0,PG] 29):=by rw[eL];exact NG _ _
   have du:NJ ao bB:=by rw[eL];exact OM
   have gA:=hide oS;have z:=kk (∀{G}(h:G:=by
   obtain⟨fv,rfl⟩:=Yj bN ah.out;obtain⟨b9,g2⟩:=xE (b'.alloc (.cells #[PG,Nr 0,OG,Nr 0,PG] 29));have e2:NJ b' b9:=by rw[g2];exact OM
   have sw:=fv.trans (e2.mono fv.size);have oT:=stays sw gA.out;have fw:=bM.trans ((jU.trans (sw.mono jU.size)).mono bM.size);have iZ:=fw;have GK:=(aap er b9 (Ns jy _ fw));have CC:=hide (fun X (aj:NJ b9 X)=>aap er X (Ns jy _ (fw.trans (aj.mono fw.size))));have hA:=hide oT;have q2:=hide g2;clear g2 oT;go_wp2_with fail;rw[<-q2.out];refine cm GK ?_;rintro e eh ⟨rfl,fW⟩;have zk:=(Ns CC eh fW);have uv:=(iZ.trans (fW.mono iZ.size));have ka:=hide (stays fW hA.out);go_wp2_with fail
   refine cm zk ?_;rintro e b3 ⟨rfl,ed⟩;have Fe:=(uv.trans (ed.mono uv.size));obtain⟨cy,bQ,b5,d',je,_,rl⟩:=cells5 (stays ed ka.out);go_wp2_with fail;go_ret;exact⟨rfl,Fe⟩),G);exact awC),G);exact awD
  | none=>
   have ah:=hide ai;have aZ:Bk t:=(WI al ai).bk Nw;have aI:=asO aZ;have iB:=(aao aZ).2;obtain⟨c,bZ⟩:=xE (aam (PY t).1);obtain⟨x,ac⟩:=xE (acZ (PY t).2.M (PY t).1);obtain⟨n,g1⟩:=xE ((PY t).2.steps:Int);obtain⟨l,hl⟩:=xE ((PY t).2.log);obtain⟨s2,ae⟩:=xE ((PY t).2.seen);have il:l.length<=1000000000:=by have:=iB.lg;rw[hl];omega
   have A8:s2.length<=1000000000:=by have:=iB.se;rw[ae];omega
   have Cr:Hid (∀ X e w',Td X t e w'->NJ X w'/\∃ la hu j6 aq,e=NU (.tuple #[aal (.slice la l.length hu) (.slice j6 s2.length aq) c n x,Pe])/\Qu X.heap.size w' (.slice la l.length hu) l/\w'.ownsRow X.heap.size 54 2 (.slice j6 s2.length aq) s2.length (s2.flatMap sn2)):=fun X e w' h=>by
    obtain⟨h1,aS,aB,O,ax,aU⟩:=Yi h ai;rw[<-bZ,<-ac,<-g1] at O;rw[<-hl] at ax;rw[<-ae] at aU;obtain⟨la,hu,rfl⟩:=N8 ax;obtain⟨j6,aq,rfl⟩:=N8 aU;exact⟨h1,la,hu,j6,aq,O,ax,aU⟩
   rw[<-bZ,<-ac,<-g1] at aI;have dw:=hide aI;clear al ai aI bZ ac g1 hl ae;have z:=kk (∀{G}(h:G:=by
   obtain⟨bm,la,hu,j6,aq,rfl,xM,qz⟩:=Ns Cr _ _ _ ax;obtain⟨bB,eL⟩:=xE (ao.alloc (.cells #[.slice la l.length hu,Nr c,ND x,Nr n,.slice j6 s2.length aq] 29));have oS:bB.heap[ao.heap.size]? = some (Og #[.slice la l.length hu,Nr c,ND x,Nr n,.slice j6 s2.length aq] 29):=by rw[eL];exact NG _ _
   have du:NJ ao bB:=by rw[eL];exact OM
   have gA:=hide oS;have qT:=(Xt (N9 xM du) (Nat.zero_le _));have kb:=(Xt (N9 qz du) (Nat.zero_le _));have z:=kk (∀{G}(h:G:=by
   obtain⟨fv,Bv,Bw,BF,BG,rfl,ID,I5⟩:=Ns Cr _ _ _ bN;obtain⟨b9,g2⟩:=xE (b'.alloc (.cells #[.slice Bv l.length Bw,Nr c,ND x,Nr n,.slice BF s2.length BG] 29));have oT:b9.heap[b'.heap.size]? = some (Og #[.slice Bv l.length Bw,Nr c,ND x,Nr n,.slice BF s2.length BG] 29):=by rw[g2];exact NG _ _
   have e2:NJ b' b9:=by rw[g2];exact OM
   have sw:=fv.trans (e2.mono fv.size);have jm:=hide (stays sw gA.out);have iZ:=(bM.trans ((jU.trans (sw.mono jU.size)).mono bM.size));have w6:=(asP (B:=0) l s2 (.slice la l.length hu) (.slice j6 s2.length aq) (.slice Bv l.length Bw) (.slice BF s2.length BG) c n x b9 (N9 qT sw) (Xt (N9 ID e2) (Nat.zero_le _)) (N9 kb sw) (Xt (N9 I5 e2) (Nat.zero_le _)) il A8);have q2:=hide g2;obtain⟨cy,bQ,b5,d',je,_,rl⟩:=cells5 jm.out;obtain⟨bi,aY,aX,cu,lU,_,J5⟩:=cells5 oT;clear g2 oT
   go_wp2_with (rw[<-q2.out])
   refine cm w6 ?_;rintro e eh ⟨rfl,fW⟩;have uv:=(iZ.trans (fW.mono iZ.size));clear cy bQ b5 d' je rl bi aY aX cu lU J5;obtain⟨cy,bQ,b5,d',je,_,rl⟩:=cells5 (stays fW jm.out);have aI:=Ns dw
   rcases aI with ⟨rfl,rfl,h1⟩|⟨rfl,rfl,h1⟩|⟨rfl,h1⟩
   ·exact awE
   ·subst h1;go_wp2_with fail;go_ret;exact⟨rfl,uv⟩
   ·exact awE),G);exact awC),G);exact awD
 | _=>
  rw[al] at cR;have dk:=cR;clear al;go_enter func3,ntmps3;go_wp2_with fail;refine cm dk ?_;rintro e w1 ⟨rfl,D⟩;have bM:=D;go_wp2_with fail;refine cm (Ns za w1 bM) ?_;rintro e w2 ⟨rfl,aE⟩;have cf:=(bM.trans (aE.mono bM.size));go_wp2_with fail;refine cm (Ns za w2 cf) ?_;rintro e ao ⟨rfl,bm⟩;have ef:=(cf.trans (bm.mono cf.size));go_wp2_with fail;go_ret;exact⟨rfl,ef⟩
end
end Hp
end Go.Proofs.YticfnaiehdpbmaaGreatDoor
