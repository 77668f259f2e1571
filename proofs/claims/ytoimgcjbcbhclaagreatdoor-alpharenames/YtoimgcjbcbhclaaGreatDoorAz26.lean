import Derived.Test.YtoimgcjbcbhclaaGreatDoorAz25
set_option maxRecDepth 100000
set_option maxHeartbeats 0
set_option linter.all false
namespace Go.Proofs.YtoimgcjbcbhclaaGreatDoor
open Go.RowKit Go.Proofs.Tryz
mutual
def Ad.N7 (f:Nat->Nat):Ad->Ad
 | .mk p kd tx n ks=>.mk (f p) kd tx n (Ad.Rz f ks)
def Ad.Rz (f:Nat->Nat):List Ad->List Ad
 | []=>[]
 | a::al=>a.N7 f::Ad.Rz f al
end
def acN (f:Nat->Nat):∀ al:List Ad,Ad.Rz f al=al.map (Ad.N7 f)
 | []=>by rw[Ad.Rz];rfl
 | a::al=>by rw[Ad.Rz,zalbb,acN f al]
def Vd (f:Nat->Nat)(a:Ad):(a.N7 f).p=f a.p/\(a.N7 f).kd=a.kd/\(a.N7 f).tx=a.tx/\(a.N7 f).ks=a.ks.map (Ad.N7 f):=by
 cases a with
 | mk p kd tx n ks=>rw[Ad.N7,acN];exact⟨rfl,rfl,rfl,rfl⟩
mutual
def Yv (f:Nat->Nat):∀ a:Ad,(a.N7 f).tr=a.tr
 | .mk p kd tx n ks=>by rw[Ad.N7,Ad.tr,Ad.tr,afR f ks]
def afR (f:Nat->Nat):∀ al:List Ad,Ad.U4 (Ad.Rz f al)=Ad.U4 al
 | []=>by rw[Ad.Rz]
 | a::al=>by rw[Ad.Rz,Ad.U4,Ad.U4,Yv f a,afR f al]
end
mutual
def VJ (f:Nat->Nat):∀ a:Ad,(a.N7 f).all=a.all.map (Ad.N7 f)
 | .mk p kd tx n ks=>by rw[Ad.N7,Ad.all,Ad.all,zalbb,acO f ks,Ad.N7]
def acO (f:Nat->Nat):∀ al:List Ad,Ad.PN (Ad.Rz f al)=(Ad.PN al).map (Ad.N7 f)
 | []=>by rw[Ad.Rz,Ad.PN];rfl
 | a::al=>by rw[Ad.Rz,Ad.PN,Ad.PN,zalam,VJ f a,acO f al]
end
mutual
def ajK (f:Nat->Nat):∀ a:Ad,va (a.N7 f)=(va a).map (Ad.N7 f)
 | .mk p kd tx n ks=>by
  rw[Ad.N7,va,va,zalam]
  congr 1
  ·split
   ·rw[zalbb,Ad.N7];rfl
   ·rfl
  ·split
   ·rfl
   ·exact afS f ks
def afS (f:Nat->Nat):∀ al:List Ad,Xa (Ad.Rz f al)=(Xa al).map (Ad.N7 f)
 | []=>by rw[Ad.Rz,Xa];rfl
 | a::al=>by rw[Ad.Rz,Xa,Xa,zalam,ajK f a,afS f al]
end
def XB (f:Nat->Nat)(g:Tr->Bool)(l:List Ad):(l.map (Ad.N7 f)).filter (λk=>g k.tr)=(l.filter λk=>g k.tr).map (Ad.N7 f):=by
 induction l with
 | nil=>rfl
 | cons x l aU=>
  rw[zalbb,zalbg,zalbg,Yv,aU]
  split <;> rfl
def acP (f:Nat->Nat)(a:Ad):Nk (a.N7 f)=(Nk a).map (Ad.N7 f):=by
 have ab:∀ x:Ad,OJ (x.N7 f)=(OJ x).map (Ad.N7 f):=λx=>by unfold OJ;rw[(Vd f x).2.2.2,XB]
 have av:∀ x:Ad,QW (x.N7 f)=(QW x).map (Ad.N7 f):=λx=>by unfold QW;rw[(Vd f x).2.2.2,XB]
 obtain⟨_,aW,_,a4⟩:=Vd f a;unfold Nk;rw[aW]
 split
 ·exact ab a
 ·split
  ·rw[a4]
   match a.ks with
   | []=>rfl
   | [x]=>rfl
   | x::y::l=>
    simp only[zalbb,zaldm,zaled,zalam,zalba];rw[(Vd f x).2.2.2,ajK,av,ab]
  ·exact ays
mutual
def afT (f:Nat->Nat):∀ a:Ad,(a.N7 f).N9=a.N9.map f
 | .mk p kd tx n ks=>by rw[Ad.N7,Ad.N9,Ad.N9,zalbb,acQ f ks]
def acQ (f:Nat->Nat):∀ al:List Ad,Ad.Nv (Ad.Rz f al)=(Ad.Nv al).map f
 | []=>by rw[Ad.Rz,Ad.Nv];rfl
 | a::al=>by rw[Ad.Rz,Ad.Nv,Ad.Nv,zalam,afT f a,acQ f al]
end
mutual
def afU (f:Nat->Nat){S cE:List Nat}{o:LW}:∀ a:Ad,(∀ p ∈ a.N9,(f p ∈ cE↔p ∈ S))->((a.N7 f).ren cE o).tr=(a.ren S o).tr
 | .mk p kd tx n ks,h=>by
  rw[Ad.N7,Ad.ren,Ad.ren,Ad.tr,Ad.tr];rw[Ad.N9] at h;rw[acR f ks λq ac=>h q (zalca _ ac)];have aJ:=h p MP
  by_cases e:p ∈ S
  ·rw[zalak e,zalak (aJ.2 e)]
  ·rw[zalah e,zalah (λa2=>e (aJ.1 a2))]
def acR (f:Nat->Nat){S cE:List Nat}{o:LW}:∀ al:List Ad,(∀ p ∈ Ad.Nv al,(f p ∈ cE↔p ∈ S))->Ad.U4 (Ad.TK cE o (Ad.Rz f al))=Ad.U4 (Ad.TK S o al)
 | [],_=>by rw[Ad.Rz,Ad.TK,Ad.TK]
 | a::al,h=>by
  rw[Ad.Nv] at h;rw[Ad.Rz,Ad.TK,Ad.TK,Ad.U4,Ad.U4,afU f a λq ac=>h q (zaldc _ ac),acR f al λq ac=>h q (zaldi _ ac)]
end
mutual
def ajL (f:Nat->Nat):∀ a b:Ad,a.tr=b.tr->(∀ x ∈ List.zip a.N9 b.N9,f x.1=x.2)->a.N7 f=b
 | .mk p kd tx n ks,.mk ia Ic Iz eV Id,h,b5=>by
  rw[Ad.tr,Ad.tr,Tr.mk.injEq] at h;obtain⟨rfl,rfl,rfl,h⟩:=h;rw[Ad.N9,Ad.N9,List.zip_cons_cons] at b5;rw[Ad.N7,afV f ks Id h λx af=>b5 x (zalca _ af),b5 (p,ia) MP]
def afV (f:Nat->Nat):∀ a b:List Ad,Ad.U4 a=Ad.U4 b->(∀ x ∈ List.zip (Ad.Nv a) (Ad.Nv b),f x.1=x.2)->Ad.Rz f a=b
 | [],[],_,_=>by rw[Ad.Rz]
 | [],b::bs,h,_=>by rw[Ad.U4,Ad.U4] at h;cases h
 | a::l,[],h,_=>by rw[Ad.U4,Ad.U4] at h;cases h
 | a::l,b::bs,h,b5=>by
  rw[Ad.U4,Ad.U4,zalfh] at h;have ab:a.N9.length=b.N9.length:=by rw[Ad.Qk,Ad.Qk,<-Ad.ND,<-Ad.ND,h.1]
  rw[Ad.Nv,Ad.Nv,List.zip_append ab] at b5;rw[Ad.Rz,ajL f a b h.1 λx af=>b5 x (zaldc _ af),afV f l bs h.2 λx af=>b5 x (zaldi _ af)]
end
def ajM:∀ (l m:List Nat),l.Nodup->∃ f:Nat->Nat,∀ x ∈ List.zip l m,f x.1=x.2
 | [],_,_=>⟨id,λx h=>(by cases h)⟩
 | _::_,[],_=>⟨id,λx h=>(by cases h)⟩
 | a::l,b::m,h=>by
  rw[zalgk] at h;obtain⟨f,an⟩:=ajM l m h.2;refine⟨λk=>if k=a then b else f k,λx af=>?_⟩;rw[List.zip_cons_cons] at af
  rcases zalas.1 af with rfl|af
  ·exact zalak rfl
  ·have E:x.1 ∈ l:=(List.of_mem_zip af).1
   show (if x.1=a then b else f x.1)=x.2
   rw[zalah λe:x.1=a=>h.1 (by rw[<-e];exact E)]
   exact an x af
def aaU {a b:Ad}(h:a.tr=b.tr)(aa:a.N9.Nodup)(D:b.N9.Nodup):∃ f:Nat->Nat,a.N7 f=b/\∀ p ∈ a.N9,∀ q ∈ a.N9,f p=f q->p=q:=by
 obtain⟨f,an⟩:=ajM a.N9 b.N9 aa;have aA:=ajL f a b h an;refine⟨f,aA,?_⟩;have E:a.N9.map f=b.N9:=by rw[<-afT,aA]
 rw[<-E] at D;intro p ae q ac e;obtain⟨i,ak,rfl⟩:=zalcf.1 ae;obtain⟨j,aT,rfl⟩:=zalcf.1 ac;have n8:i<(a.N9.map f).length:=by rw[zalag];exact ak
 have hi:j<(a.N9.map f).length:=by rw[zalag];exact aT
 have a4:(a.N9.map f)[i]=(a.N9.map f)[j]:=by simpa using e
 have ao:i=j:=(zalga D).1 a4;subst ao;rfl
def eql_ptr {L:LK}{p q:Nat}(ae:Cl L p)(ac:Cl L q):(binOp .eql 22 (LC p) (LC q)).run prog L=.ok (L9 (decide (p=q))) L:=by
 have E:=adD ae ac;simp only[binOp];simp[E,Result.andThen]
def aiC (t:Tr):(Tj t).length+(O0 t).length<=t.kids.length:=by
 unfold Tj O0
 induction t.kids with
 | nil=>simp
 | cons k ks aU=>
  rw[zalbg,zalbg];have af:¬ (Uz k=true/\Rn k=true):=by
   unfold Uz Rn;intro h;simp at h;omega
  cases E:Uz k <;> cases O:Rn k <;> simp[E,O] at af ⊢ <;> omega
structure aGK (I:Nat->Prop)(w1:LK)(v:LY)(ah:List Ad)(g cap:Nat):Prop where
 form:v=.slice (some (LD g 0)) ah.length cap
 lt:g<w1.heap.size
 cell:∀ j (aT:j<ah.length),w1.cell? (LD g j)=some (LC (ah[j]).p)
 at':∀ x ∈ ah,MZ I w1 x
 ill:∀ x ∈ ah,x.tr.ill=0
 cnt:∀ x ∈ ah,x.cnt<=20000
def al5 {I:Nat->Prop}(t:Ad)(at':Int)(w:LK)(aH:MZ I w t)(ak:t.tr.ill=0)(am:t.cnt<=20000)(gs:∀ x ∈ t.all,∀ y z ks,MF x.tr=true->x.ks=y::z::ks->z.kd=6) :
  MC 34 #[LC t.p,LJ at'] w λe w'=>(∃ u,e=MN (.tuple #[u,L9 (decide (0<(QY t at').length))])/\Na w.heap.size w' u (QY t at'))/\LX w w':=by
 have bS:=hide (abf t.cnt t Nh w aH LM);have nr:=hide (Tv aH);have uM:=hide (arA ak);have lf:=hide (TI am);have hlen:t.all.length<=20000:=by rw[VQ,Ad.Qk];exact am
 have ux:=hide (SE t);have oB:=hide gs;have vb:Hid (QY t at'=if h:0<=at'/\at'.toNat<t.all.length then U9 t.all (t.all[at'.toNat]'h.2) else []):=rfl;have hpos:0<t.all.length:=by rw[all_eq];simp
 generalize QY t at'=R at vb ⊢
 rw[<-ux.out] at bS
 generalize t.all=ah at *
 generalize t.p=p at bS ⊢
 (try clear ak am gs);go_enter func34,ntmps34;go_wp2_with fail;refine cm bS.out ?_;rintro e w1 ⟨⟨v,rfl,a0⟩,bz⟩;obtain⟨g,cap,lO,ed⟩:=OB a0 (by rw[zalag];exact hpos)
 have Cq:=(Me a0 g (by rw[lO];rfl)).1
 rw[zalag] at lO;subst lO;have mc:Hid (aGK I w1 (.slice (some (LD g 0)) ah.length cap) ah g cap):=⟨rfl,Cq,λj aT=>by have h:=ed j (by rw[zalag];exact aT);simpa using h,λx af=>MZ.later (λb _ ab=>bz.block b ab) _ (Lu nr x af),uM.out,lf.out⟩
 have ba:=hide bz;(try clear a0 ed Cq)
 by_cases aJ:at'<0
 ·have a7:R=[]:=by rw[vb.out,zalhu LM]
  subst a7;exact atP
 ·by_cases E:(ah.length:Int)<=at'
  ·have a7:R=[]:=by rw[vb.out,zalhu LM]
   subst a7;have O:at' ≥ (ah.length:Int):=E;exact atP
  ·obtain⟨j,rfl⟩:∃ j:Nat,at'=(j:Int):=⟨at'.toNat,by omega⟩;have aT:j<ah.length:=LM;have a7:R=U9 ah ah[j]:=by rw[vb.out,zalgw ⟨by omega,by simpa using aT⟩];rfl
   have c0:=mc.out.cell j aT;have de:=mc.out.lt;obtain⟨x,pk⟩:∃ x,ah[j]=x:=⟨_,rfl⟩;have k9:x ∈ ah:=pk ▸ zalao aT;rw[pk] at c0 a7;have af:=mc.out.at' x k9;obtain⟨_,bF,ct,d1,_⟩:=af.cells;have cy:=hide af;have bo:=hide a7;have pS:=hide af.nat.nt;have m1:=mc.out.cnt x k9;have g6:=x.ND;have ex:x.tr.kids.length<=20000:=by
    have E:=NG x.tr.kids;have ao:x.tr.count=1+Tr.counts x.tr.kids:=by cases x.tr with|mk kd tx n ks=>exact count_mk _ _ _ _
    omega
   have dI:¬ ((j:Int) ≥ (ah.length:Int)):=LM;have hi:(j:Int)<(ah.length:Int):=LM;have li:Hid (∀ (M:List LW) (a:Option Addr) (c:Nat) (L:LK),R=M->Na w.heap.size L (.slice a M.length c) M->LX w L->(∃ u,Ending.returned (.tuple #[.slice a M.length c,L9 (decide (0<M.length))])=MN (.tuple #[u,L9 (decide (0<R.length))])/\Na w.heap.size L u R)/\LX w L):=by
    intro M a c L rQ W D;subst rQ;exact⟨⟨_,rfl,W⟩,D⟩
   have oR:=hide k9;have uF:=hide m1;have lr:=hide g6;(try clear af a7 k9 m1 g6 pk)
   by_cases hl:x.kd=1
   ·have bX:=hide (bo.out.trans (aEq ah _ hl));have a1:=hide (Y9 x.tr x.p w1 w1 pS.out O4 ex);have tM:=Rk x.tr;rw[hl] at ct
    generalize O0 x.tr=ls at a1 tM bX
    generalize x.p=q at c0 ct d1 bF a1
    (try clear hl d1);go_wp2_with fail;refine cm a1.out ?_;rintro e w2 ⟨⟨u,rfl,bG⟩,a5⟩;obtain⟨eq,uc,rfl⟩:=bG.form;have i5:=hide (bG.row a5);have eB:=ba.out.size;have dV:=a5.size;have bj:=hide (ba.out.trans (a5.mono eB));go_wp2_with fail
    go_loopw [7,38] (λo i wr=>∃ k:Nat,k<=ls.length/\i=LJ k/\Na w.heap.size wr o (NI ((ls.take k).map Tr.tx))/\LX w2 wr) (λ_ i _=>ls.length - (intOf i).toNat)
    case atStart=>exact⟨0,zalae _,rfl,Ql _ _,O4⟩
    case round=>
     have A{G}(h:G:=by
     have g5:=hbel.size;obtain⟨aQ,cc,rfl⟩:=LZ hown
     by_cases aC:k<ls.length
     ·obtain⟨dn,cap2,dM,a0,jc,gv,av⟩:=(i5.out.later aV.out).cell k aC;have A{G}(h:G:=by
      obtain⟨qK,_,bC,_⟩:=av.cells;have eY:(k:Int)<(ls.length:Int):=LM;have qy:(NI ((ls.take k).map Tr.tx)).length<=20000:=by
       have E:=Qs ((ls.take k).map Tr.tx);rw[zalag,zalbe] at E;omega
      have co:Hid (NI ((ls.take (k+1)).map Tr.tx)=OD (NI ((ls.take k).map Tr.tx)) (ls[k]).tx):=by
       show _=_
       rw[zalac aC,zalam,NI,zalby];rfl
      have ag:=hide (VN (NI ((ls.take k).map Tr.tx)) (ls[k]).tx _ wr HOWN.out LM LM)
      generalize (ls[k]).tx=y at bC ag co
      generalize NI ((ls.take k).map Tr.tx)=M at ag co HOWN qy
      (try clear c0 ct);exact avv):=LG h;exact Tf
     ·have ir:k=ls.length:=LM;subst ir;rw[zalaq] at HOWN ⊢
      generalize NI (ls.map Tr.tx)=M at HOWN bX ⊢
      have eW:=hide (bj.out.trans (aV.out.mono LM));(try clear c0 ct);go_wp2
      go_ret2
      exact Lu li M _ _ _ bX.out HOWN.out eW.out):=LG h;exact aq1
   ·by_cases an:MF x.tr=true
    ·obtain⟨y,z,ks,bd⟩:=Xb (mc.out.ill x oR.out) an;have bX:=hide (bo.out.trans (aEr ah x y z ks an bd (Lu oB x oR.out y z ks an bd)));obtain⟨dn,cap2,c3,n7,dH,aW,hy,b5⟩:=cy.out.two bd;have bN:=hide (QL x.tr x.p w1 pS.out);rw[an] at bN;have hk:Xh x.tr=y.tr:=by unfold Xh;rw[x.NC.2.2,bd];rfl
     have bk:=hide (ZH x.tr x.p w1 pS.out (by rw[x.NC.2.2,bd];simp) (by rw[lr.out];exact uF.out))
     rw[hk] at bk;have rY:z.tr.count<=20000:=by
      have E:=Lu uF;have O:=OA x;rw[bd,Ad.cnts,Ad.cnts] at O;rw[z.ND];omega
     have yo:(y.tr.kids.map Tr.tx).length<=20000:=by
      have E:=Lu uF;have O:=OA x;rw[bd,Ad.cnts,Ad.cnts] at O;have ao:=y.ND;have aM:=NG y.tr.kids;have bw:y.tr.count=1+Tr.counts y.tr.kids:=by cases y.tr with|mk kd tx n ks=>exact count_mk _ _ _ _
      rw[zalag];omega
     have ey:(namesT z.tr true).length<=40000:=by
      have E:(namesT z.tr true).length<=_:=Qs _;rw[zalab,zalab,zalag,zalag,zalak rfl] at E;have O:=Xp z.tr;have ao:=Rk z.tr;have aM:=VD z.tr;have bw:z.tr.count=1+Tr.counts z.tr.kids:=by cases z.tr with|mk kd tx n ks=>exact count_mk _ _ _ _
      have h6:=NG z.tr.kids;have h7:(Tj z.tr).length+(O0 z.tr).length<=z.tr.kids.length:=aiC z.tr;omega
     have jw:=hide (λL (aO:LX w1 L)=>VZ z.tr z.p true L (b5.nat.nt.later aO) rY);have hpl0:=Qs (y.tr.kids.map Tr.tx)
     generalize NI (y.tr.kids.map Tr.tx)=P at bk bX hpl0
     generalize namesT z.tr true=nm at jw bX ey
     obtain⟨_,sf,_⟩:=b5.cells
     generalize z.p=nb at *
     generalize x.p=q at *
     generalize x.kd=kd at *
     (try clear d1 an bd dH rY hk);go_wp2_with fail;refine Y5 ?_;rintro e ox ⟨rfl,rfl⟩;go_wp2_with fail;refine cm bk.out ?_;rintro e w2 ⟨⟨u2,rfl,bG⟩,a5⟩;have eB:=ba.out.size;have dV:=a5.size;have f5:=hide (QM bG eB);have bj:=hide a5;obtain⟨fS,bD,rfl⟩:=LZ bG;have dR:=Md a5 c3;have f1:=Md a5 aW;have ag:=hide (Lu jw w2 a5);(try clear c0 c3 aW ct);go_wp2_with fail;refine NJ ?_;rintro e aq ⟨⟨u3,rfl,d6⟩,bx⟩;have g5:=bx.size;have gU:=hide d6;have dr:=hide (Na.later f5.out bx)
     have bV:=hide (ba.out.trans ((bj.out.trans (bx.mono dV)).mono eB));obtain⟨en,b8,rfl⟩:=LZ d6;(try clear dR f1);go_wp2_with fail
     go_loopw [7,62] (λo i wr=>∃ k:Nat,k<=nm.length/\i=LJ k/\Na w.heap.size wr o ((nm.take k).foldl OD P)/\LX aq wr) (λ_ i _=>nm.length - (intOf i).toNat)
     case atStart=>exact⟨0,zalae _,rfl,dr.out,O4⟩
     case round=>
      have A{G}(h:G:=by
      have C0:=hbel.size;obtain⟨aQ,cc,rfl⟩:=LZ hown
      by_cases aC:k<nm.length
      ·obtain⟨iM,cap4,a0,r0,gv⟩:=VI (Na.later gU.out aV.out) k aC;have A{G}(h:G:=by
       have eY:(k:Int)<(nm.length:Int):=LM;have qy:((nm.take k).foldl OD P).length<=60000:=by
        have E:=Xf (nm.take k) P;rw[zalbe] at E;omega
       have co:Hid ((nm.take (k+1)).foldl OD P=OD ((nm.take k).foldl OD P) nm[k]):=by
        show _=_
        rw[zalac aC,zalby];rfl
       have ag:=hide (VN ((nm.take k).foldl OD P) nm[k] _ wr HOWN.out LM LM)
       generalize nm[k]=y at gv ag co
       generalize (nm.take k).foldl OD P=M at ag co HOWN qy
       exact avv):=LG h;exact Tf
      ·have ir:k=nm.length:=LM;subst ir;rw[zalaq] at HOWN ⊢
       generalize nm.foldl OD P=M at HOWN bX ⊢
       have eW:=hide (bV.out.trans (aV.out.mono LM));go_wp2
       go_ret2
       exact Lu li M _ _ _ bX.out HOWN.out eW.out):=LG h;exact aq1
    ·have hh:MF x.tr=false:=by simpa using an
     have bN:=hide (QL x.tr x.p w1 pS.out);rw[hh] at bN
     by_cases vQ:x.kd=13
     ·have bX:=hide (bo.out.trans (avE ah _ vQ));rw[vQ] at ct
      generalize x.tx=tx at d1 bX
      generalize x.p=q at *
      (try clear an hh vQ);go_wp2_with fail;refine Y5 ?_;rintro e ox ⟨rfl,rfl⟩;go_wp2
      go_ret2
      have eB:=ba.out.size;have ip:Na w.heap.size (ox.alloc (.cells #[LQ tx] 9)) (.slice (some (LD ox.heap.size 0)) 1 1) [tx]:=⟨rfl,zalal ⟨ox.heap.size,1,#[LQ tx],rfl,eB,LP _ _,Nh,by decide,rfl,rfl⟩⟩;exact Lu li [tx] _ _ _ bX.out ip (ba.out.alloc eB _)
     ·by_cases lI:x.kd=6
      ·have bX:=hide (bo.out.trans (aEs ah _ lI));rw[lI] at ct;have jw:=hide (VZ x.tr x.p false w1 pS.out (by rw[lr.out];exact uF.out))
       have DU:=hide cy.out.cl
       generalize namesT x.tr false=nm at jw bX
       generalize x.p=q at *
       (try clear an hh lI);go_wp2_with fail;refine Y5 ?_;rintro e ox ⟨rfl,rfl⟩;go_wp2_with fail
       go_loopw [89] (λi wr=>∃ k:Nat,k<=ah.length/\i=LJ k/\((ah.take k).any λy=>Qi y q)=false/\wr=ox) (λi _=>ah.length - (intOf i).toNat)
       case atStart=>exact⟨0,zalae _,rfl,rfl,rfl⟩
       case round=>
        obtain⟨k,cq,rfl,hany,hw⟩:=hrel;obtain rfl:ox=wr:=hw.symm;have q0:=hide hany;(try clear hw hany)
        by_cases aC:k<ah.length
        ·have eY:(k:Int)<(ah.length:Int):=LM;have xs:=mc.out.cell k aC;obtain⟨y,t3⟩:∃ y,ah[k]=y:=⟨_,rfl⟩;have k':y ∈ ah:=t3 ▸ zalao aC;rw[t3] at xs;have n4:=mc.out.at' y k';have co:Hid (((ah.take (k+1)).any λy=>Qi y q)=Qi y q):=by
          show _=_
          rw[zalac aC,t3,zaleq,q0.out];simp
         have f3:=hide (QL y.tr y.p ox n4.nat.nt)
         by_cases an:MF y.tr=true
         ·obtain⟨a,b,ks,bd⟩:=Xb (mc.out.ill y k') an;obtain⟨dn,cap2,c3,n7,dH,aW,aa,D⟩:=n4.two bd;have Ca:Qi y q=decide (b.p=q):=by unfold Qi;rw[an,bd];rfl
          have k1:=eql_ptr D.cl DU.out;obtain⟨_,Dk,_⟩:=n4.cells;rw[an] at f3;have Ey:=hide k'
          generalize y.p=gO at *
          generalize b.p=ku at *
          have zW:=hide Ca;(try clear c0 ct d1 dH aa bd an k' t3 Ca)
          by_cases g3:ku=q
          ·have a7:R=[]:=by
            rw[bX.out,zalak];rw[zaldd];exact⟨y,Ey.out,by rw[zW.out,zalaz g3]⟩
           rw[zalaz g3] at k1;subst a7 g3;go_wp2_with fail;refine cm f3.out ?_;rintro e IG ⟨rfl,rfl⟩;exact atP
          ·rw[zalaw g3] at k1;have mJ:Hid (((ah.take (k+1)).any λy=>Qi y q)=false):=by
            show _=_
            rw[co.out,zW.out,zalaw g3]
           exact ayH
         ·have hh:MF y.tr=false:=by simpa using an
          have mJ:Hid (((ah.take (k+1)).any λy=>Qi y q)=false):=by
           show _=_
           rw[co.out];unfold Qi;rw[hh];rfl
          rw[hh] at f3
          generalize y.p=gO at *
          (try clear c0 ct d1 an hh k' t3);exact ayH
        ·have ir:k=ah.length:=LM;subst ir;rw[zalaq] at q0;have f5:Hid (R=nm):=by
          show _=_
          rw[bX.out,zalah (by rw[q0.out];decide)]
         (try clear c0 ct d1);go_wp2_with fail;refine cm jw.out ?_;rintro e aq ⟨⟨u3,rfl,d6⟩,bx⟩;have eB:=ba.out.size;have mH:=hide (QM d6 eB);have bV:=hide (ba.out.trans (bx.mono eB));obtain⟨en,b8,rfl⟩:=LZ d6;go_wp2
         go_ret2
         exact Lu li nm _ _ _ f5.out mH.out bV.out
      ·have bX:=hide (bo.out.trans (aEt ah _ hl hh lI vQ))
       generalize x.p=q at *
       generalize x.kd=kd at *
       (try clear an hh);go_wp2_with fail;refine Y5 ?_;rintro e ox ⟨rfl,rfl⟩;go_wp2
       go_ret2
       exact Lu li [] _ _ _ bX.out (Ql _ _) ba.out
def FS (t:Ad):Prop:=∀ x ∈ t.all,MF x.tr=true->∃ y z,x.ks=[y,z]/\z.kd=6/\∀ v ∈ y.all,MF v.tr=false
def aaV {Nm:LW->Prop}{c:Nat}{t:Ad}(h:PK Nm c t.tr):FS t:=by
 intro x af an;obtain⟨lv,W⟩:=VY (P:=λx=>∃ lv,PK Nm lv x.tr) (λa ⟨lv,aa⟩ k N=>agy aa k.tr (by rw[a.NC.2.2];exact zalcj N)) t.cnt t Nh ⟨c,h⟩ x af
 obtain⟨p,b,N,ae,D⟩:=aed W an;rw[x.NC.2.2] at N
 match bd:x.ks,N with
 | [y,z],N=>
  have hl:y.tr=p:=by simp at N;exact N.1
  have cq:z.tr=b:=by simp at N;exact N.2
  subst hl cq;refine⟨y,z,rfl,?_,λv a0=>?_⟩
  ·rw[<-z.NC.1]
   generalize z.tr=Ls at D
   cases D with
   | body aH W=>rfl
  ·have E:=VY (P:=λv=>PK Nm 5 v.tr\/PK Nm 6 v.tr) (λa aa k N=>(ajW aa).2 k.tr (by rw[a.NC.2.2];exact zalcj N)) y.cnt y Nh (zalad ae) v a0
   exact(ajW E).1
 | [],N=>simp at N
 | [_],N=>simp at N
 | _::_::_::_,N=>simp at N
def U0:Nat->Option Nat->List Ad->List (Nat × Ad)
 | _,_,[]=>[]
 | i,b,a::l=>(if keepA (OE b a) a then [(i,a)] else [])++U0 (i+1) (OE b a) l
def agz:∀ (l m:List Ad) (i:Nat) (b:Option Nat),U0 i b (l++m)=U0 i b l++U0 (i+l.length) (l.foldl OE b) m
 | [],m,i,b=>by simp[U0]
 | a::l,m,i,b=>by
  rw[zalcq,U0,U0,agz l m,zalax,zalcp,zalbf]
  congr 3
  omega
mutual
def asC:∀ (a:Ad) (s:OSt),wk osF s a=(s.1+a.all.length,a.all.foldl OE s.2.1,s.2.2++U0 s.1 s.2.1 a.all)
 | .mk p kd tx n ks,s=>by
  rw[wk,Ad.all];have e:(osF s (.mk p kd tx n ks)).2=true:=rfl;rw[zalak e,aor ks];simp only[osF,U0,zalcp,zalbf];refine Prod.ext (by simp only[];omega) (Prod.ext rfl ?_)
  simp only[]
  split
  ·rw[zalax]
  ·rw[zalbq]
def aor:∀ (al:List Ad) (s:OSt),VP osF s al=(s.1+(Ad.PN al).length,(Ad.PN al).foldl OE s.2.1,s.2.2++U0 s.1 s.2.1 (Ad.PN al))
 | [],s=>by rw[VP,Ad.PN];simp[U0]
 | a::al,s=>by
  rw[VP,asC a s,aor al,Ad.PN,agz,zalab,zalby];simp only[zalax];refine Prod.ext (by simp only[];omega) rfl
end
def V9 (t:Ad):Q5 t=U0 0 none t.all:=by
 unfold Q5;rw[asC];simp
def aee (at':Int):∀ (l:List Ad) (i:Nat) (b:Option Nat),at'<(i:Int)->(U0 i b l).find? (λe=>decide (at'=(e.1:Int)))=none
 | [],_,_,_=>rfl
 | a::l,i,b,h=>by
  rw[U0,zalfn,aee at' l (i+1) _ LM]
  split
  ·rw[zalck,zalaw (by simp only[];omega)];rfl
  ·rfl
def agA (at':Int):∀ (l:List Ad) (i:Nat) (b:Option Nat),(i:Int)+l.length<=at'->(U0 i b l).find? (λe=>decide (at'=(e.1:Int)))=none
 | [],_,_,_=>rfl
 | a::l,i,b,h=>by
  rw[zalbf] at h;rw[U0,zalfn,agA at' l (i+1) _ LM]
  split
  ·rw[zalck,zalaw (by simp only[];omega)];rfl
  ·rfl
def ajX:∀ (l:List Ad) (i k:Nat) (b:Option Nat) (N:k<l.length),(U0 i b l).find? (λe=>decide (((i+k:Nat):Int)=(e.1:Int)))=if keepA ((l.take (k+1)).foldl OE b) l[k] then some (i+k,l[k]) else none
 | [],_,_,_,N=>by cases N
 | a::l,i,0,b,_=>by
  rw[U0,zalfn,aee _ l (i+1) _ LM]
  by_cases N:keepA (OE b a) a=true
  ·rw[zalak N,zalak (show keepA (((a::l).take (0+1)).foldl OE b) (a::l)[0]=true from N)];simp
  ·rw[zalah N,zalah (show ¬ keepA (((a::l).take (0+1)).foldl OE b) (a::l)[0]=true from N)];rfl
 | a::l,i,k+1,b,N=>by
  rw[zalbf] at N;have h:=ajX l (i+1) k (OE b a) LM;have e:i+1+k=i+(k+1):=LM;rw[e] at h;rw[U0,zalfn,h,List.take_succ_cons,zalcp,zalev]
  split
  ·rw[zalck,zalaw (by simp only[];omega)];rfl
  ·rfl
def ac7:∀ (l:List Ad) (b:Option Nat) (q:Nat),l.foldl OE b=some q->b=some q\/∃ y ∈ l,Qi y q=true
 | [],b,q,h=>zalad h
 | a::l,b,q,h=>by
  rcases ac7 l _ q h with E|⟨y,E,O⟩
  ·unfold OE at E
   split at E
   ·rename_i an
    split at E
    ·rename_i x y ks bd
     refine zalal ⟨a,by simp,?_⟩;unfold Qi;rw[an,bd];simpa using E
    ·exact zalad E
   ·exact zalad E
  ·exact zalal ⟨y,by simp[E],O⟩
def ac8:∀ (l:List Ad) (b:Option Nat),(∀ v ∈ l,MF v.tr=false)->l.foldl OE b=b
 | [],_,_=>rfl
 | a::l,b,h=>by
  rw[zalcp];have e:OE b a=b:=by unfold OE;rw[h a MP];rfl
  rw[e];exact ac8 l b λv a0=>h v (by simp[a0])
def Zj (t:Ad):∀ x ∈ t.all,∃ aL post,t.all=aL++x.all++post:=by
 refine VY (P:=λx=>∃ aL post,t.all=aL++x.all++post) (λa ⟨aL,post,aa⟩ k N=>?_) t.cnt t Nh ⟨[],[],by simp⟩;obtain⟨iX,e9,W⟩:=List.append_of_mem N;refine⟨aL++a::Ad.PN iX,Ad.PN e9++post,?_⟩;rw[aa,all_eq a,W,agw,Ad.PN];simp
def abg {l:List Ad}(aD:(l.map Ad.p).Nodup){i j:Nat}(ak:i<l.length)(aT:j<l.length)(h:(l[i]).p=(l[j]).p):i=j:=by
 have E:=(zalga (h₀:=by rw[zalag];exact ak) (h₁:=by rw[zalag];exact aT) aD).1 (by simpa using h)
 exact E
def ajY {t:Ad}(aD:t.N9.Nodup)(ai:FS t){k:Nat}(N:k<t.all.length){y:Ad}(hy:y ∈ t.all)(D:Qi y (t.all[k]).p=true) :
  (t.all[k]).kd=6/\(t.all.take (k+1)).foldl OE none=some (t.all[k]).p:=by
 have an:MF y.tr=true:=by
  unfold Qi at D;rw[zalee] at D;exact D.1
 obtain⟨a,z,bd,Dl,pa⟩:=ai y hy an;have ae:z.p=(t.all[k]).p:=by
  unfold Qi at D;rw[an,bd] at D;simpa using D
 obtain⟨aL,post,pi⟩:=Zj t y hy;have dV:t.all=(aL++y::a.all)++z::(Ad.PN z.ks++post):=by
  rw[pi,all_eq y,bd,Ad.PN,Ad.PN,Ad.PN,all_eq z];simp
 have ab:(aL++y::a.all).length<t.all.length:=by rw[dV];simp
 have aA:t.all[(aL++y::a.all).length]=z:=ayK
 have cA:(aL++y::a.all).length=k:=abg (by rw[SE];exact aD) ab N (by rw[aA];exact ae)
 subst cA;rw[aA];refine⟨Dl,?_⟩;have aH:t.all.take ((aL++y::a.all).length+1)=aL++y::a.all++[z]:=by
  rw[zalac ab,aA]
  congr 1
  have:=List.take_left' (l₁:=aL++y::a.all) (l₂:=z::(Ad.PN z.ks++post)) rfl;rw[<-dV] at this;exact this
 rw[aH,zalby,zalby,zalcp,zalcp,zalgn,ac8 a.all _ pa];have aW:∀ b,OE b y=some z.p:=by intro b;unfold OE;rw[an,bd];rfl
 have a4:∀ b,OE b z=b:=by
  intro b;unfold OE;have:MF z.tr=false:=by unfold MF;rw[z.NC.1,Dl];rfl
  rw[this];rfl
 rw[aW,a4]
def aef (l:List LW):0<(NI l).length↔0<l.length:=by
 rw[zalhj,zalhj];exact⟨λ⟨x,h⟩=>⟨x,abh.1 h⟩,λ⟨x,h⟩=>⟨x,abh.2 h⟩⟩
def Yw {t:Ad}(aD:t.N9.Nodup)(ai:FS t)(at':Int):W9 t at'=QY t at'/\(Vb t at').isSome=decide (0<(QY t at').length):=by
 unfold W9 Vb;rw[V9];have Iu:∀ k (N:k<t.all.length),QY t (k:Int)=U9 t.all t.all[k]:=λk N=>by
  unfold QY;rw[zalgw ⟨by omega,by simpa using N⟩];rfl
 have lV:¬ (0<=at'/\at'.toNat<t.all.length)->QY t at'=[]:=λh=>by
  unfold QY;rw[zalhu h]
 by_cases aJ:at'<0
 ·rw[aee at' t.all 0 none LM,lV LM];exact⟨rfl,rfl⟩
 ·by_cases E:(t.all.length:Int)<=at'
  ·rw[agA at' t.all 0 none LM,lV LM];exact⟨rfl,rfl⟩
  ·obtain⟨k,rfl⟩:∃ k:Nat,at'=(k:Int):=⟨at'.toNat,by omega⟩;have N:k<t.all.length:=LM;have aA:=ajX t.all 0 k none N;rw[zalda] at aA;rw[aA,Iu k N];obtain⟨b,D⟩:∃ b,(t.all.take (k+1)).foldl OE none=b:=⟨_,rfl⟩;rw[D]
   by_cases hB:b=some (t.all[k]).p
   ·have hkeep:keepA b (t.all[k])=false:=by unfold keepA;rw[hB];simp
    rw[hkeep];subst hB
    rcases ac7 _ _ _ D with O|⟨y,O,ao⟩
    ·
     cases O
    ·have hy:y ∈ t.all:=List.mem_of_mem_take O;have h6:=(ajY aD ai N hy ao).1;have T:U9 t.all (t.all[k])=[]:=by
      unfold U9;rw[zalak ⟨h6,zaldd.2 ⟨y,hy,ao⟩⟩]
     generalize U9 t.all (t.all[k])=R at T ⊢
     subst T;exact⟨rfl,rfl⟩
   ·have T:U9 t.all (t.all[k])=NI ((declT (t.all[k]).tr).map Tr.tx):=by
     unfold U9;rw[zalah];rintro⟨_,ao⟩;obtain⟨y,hy,aM⟩:=zaldd.1 ao;exact hB (D.symm.trans (ajY aD ai N hy aM).2)
    generalize U9 t.all (t.all[k])=R at T ⊢
    subst T;have d':(!(b==some (t.all[k]).p))=true:=by
     rw[Bool.not_eq_true',zalaj];exact hB
    unfold keepA;rw[d',zaleo]
    by_cases ab:0<(declT (t.all[k]).tr).length
    ·rw[zalaz ab,zalak rfl];refine⟨rfl,?_⟩;rw[zalaz ((aef _).2 (by rw[zalag];exact ab))]
     rfl
    ·rw[zalaw ab];have b5:declT (t.all[k]).tr=[]:=zalbr.1 LM;rw[b5];exact⟨rfl,rfl⟩
def Nj.c2 {I:Nat->Prop}{w:LK}{t:Tr}{p:Nat}(h:Nj I w t p):w.cell? (LD p 2)=some (LJ t.n):=by
 obtain⟨u,ps,D,_⟩:=Nj.WT h;exact(node_cells D).2.2.1
def anp (w:LK)(kd n:Int)(tx:LW):Open w.heap.size (w.alloc (MB kd tx n QJ)) (.mk kd tx n []) w.heap.size QJ []:=
 ⟨Nh,LP _ _,⟨rfl,zalad ⟨rfl,rfl⟩⟩,by simp[Value.ownBlock],LU.nil⟩
def Open.drew {B:Nat}{w:LK}{t:Tr}{p:Nat}{u:LY}{ps:List Nat}(h:Open B w t p u ps):Open B w.drew t p u ps:=
 ⟨h.low,h.blk,L8 (w:=w) (w':=w.drew) (I:=λ_=>True) (λ_ _ _=>rfl) (λ_ _=>trivial) h.row,h.own,LU.later (w:=w) (w':=w.drew) (λ_ _ _=>rfl) _ _ h.kids⟩
def anq:∀ (m:Nat) (t:Tr),t.count<=m->t.count<=20000->∀ (p:Nat) (w:LK),VA w t p ->
  MC 35 #[LC p] w λe w'=>(∃ q,e=MN (LC q)/\Nj (λb=>w.heap.size<=b) w' t q)/\LX w w':=by
 intro m
 induction m with
 | zero=>intro t aH;have:=Xq t;omega
 | succ m aU=>
  have A{G}(h:G:=by
  go_enter func35,ntmps35;go_wp2_with fail
  go_region
  go_wp2_with fail
  go_loopw [27] (λi wr=>∃ (k:Nat) (um:LY) (bf:List Nat),k<=ks.length/\i=LJ k/\Open w.heap.size wr (.mk kd tx n (ks.take k)) w.heap.size um bf/\LX w wr) (λi _=>ks.length - (intOf i).toNat)
  case atStart=>
   exact aw4
  case round=>
   have A{G}(h:G:=by
   by_cases aC:k<ks.length
   ·obtain⟨g,cap,q,a0,hg,dZ,hm⟩:=bo.out.cell k aC;have A{G}(h:G:=by
    have A{G}(h:G:=by
    refine MR 8 (λX=>LX wr X) Nw ?_;have A{G}(h:G:=by
    refine uh 0 (LC w.heap.size) aE ?_;refine uh 1 (LC w.heap.size) aE ?_;refine uh 2 (LC w.heap.size) aE ?_;refine uh 3 (Mc w.heap.size 3) aE ?_;refine ug 4 (.slice aQ k cc) rfl (zalad ⟨by kernel_rfl,λX aB=>by have aJ:=Md aB Am.out.1;go_simp⟩) aE ?_
    refine uh 5 (LC q) aE ?_;refine Qh 6 λK U=>?_;have A{G}(h:G:=by
    refine Qh 7 λK U=>?_;go_simp;refine U.out _ _ (λ_=>q5.out.alloc (by have:=q5.out.size;omega) _) ?_
    (try clear U K);have uZ:=hide eZ;(try clear eZ);refine Qh 8 λK U=>?_;have A{G}(h:G:=by
    refine uz 9 (LC w.heap.size) ?_;refine uz 10 (Mc w.heap.size 3) ?_;refine Qh 11 λK U=>?_;go_simp;exact aw5):=LG h;exact aw6):=LG h;go_simp;exact aw7):=LG h;exact aw8):=LG h;exact aw9):=LG h;exact Tf
   ·exact axa):=LG h;exact axb):=LG h;exact axc
def akU:∀ (m:Nat) (t:Tr),t.count<=m->t.count<=20000->∀ (p:Nat) (w:LK),VA w t p ->
  MC 80 #[LC p] w λe w'=>(∃ q,e=MN (LC q)/\Nj (λb=>w.heap.size<=b) w' t q)/\LX w w':=by
 intro m
 induction m with
 | zero=>intro t aH;have:=Xq t;omega
 | succ m aU=>
  have A{G}(h:G:=by
  go_enter func80,ntmps80;go_wp2_with fail
  go_loopw [15] (λi wr=>∃ (k:Nat) (um:LY) (bf:List Nat),k<=ks.length/\i=LJ k/\Open w.heap.size wr (.mk kd tx n (ks.take k)) w.heap.size um bf/\LX w wr) (λi _=>ks.length - (intOf i).toNat)
  case atStart=>
   exact aw4
  case round=>
   have A{G}(h:G:=by
   by_cases aC:k<ks.length
   ·obtain⟨g,cap,q,a0,hg,dZ,hm⟩:=bo.out.cell k aC;have A{G}(h:G:=by
    have A{G}(h:G:=by
    refine MR 5 (λX=>LX wr X) Nw ?_;have A{G}(h:G:=by
    refine uh 0 (Mc w.heap.size 3) aE ?_;refine ug 1 (.slice aQ k cc) rfl (zalad ⟨by kernel_rfl,λX aB=>by have aJ:=Md aB Am.out.1;go_simp⟩) aE ?_
    refine uh 2 (LC q) aE ?_;refine Qh 3 λK U=>?_;have A{G}(h:G:=by
    refine Qh 4 λK U=>?_;go_simp;refine U.out _ _ (λ_=>q5.out.alloc (by have:=q5.out.size;omega) _) ?_
    (try clear U K);have uZ:=hide eZ;(try clear eZ);refine Qh 5 λK U=>?_;have A{G}(h:G:=by
    refine uz 6 (Mc w.heap.size 3) ?_;refine Qh 7 λK U=>?_;go_simp;exact aw5):=LG h;exact aw6):=LG h;go_simp;exact aw7):=LG h;exact aw8):=LG h;exact aw9):=LG h;exact Tf
   ·exact axa):=LG h;exact axb):=LG h;exact axc
section
open Go.RowKit Go.Extern.Stop Go.Stop Go.Extern Tryz
section
variable (w:LK)
def anj:MC 15 #[nIZ] w λe w'=>e=MN (LJ 0)/\w'=w:=by
 go_enter func15,ntmps15;go_wp2;go_ret;exact⟨rfl,rfl⟩
def akO:MC 117 #[nIZ] w λe w'=>e=MN (.tuple #[LJ 0,LJ (-1)])/\w'=w:=by
 go_enter func117,ntmps117;go_wp2_with fail;refine(anj w).mono ?_;rintro e w1 ⟨rfl,rfl⟩;go_wp2_with fail;refine ahU ?_;go_wp2
 go_ret2
 exact⟨rfl,rfl⟩
def at_nil:MC 58 #[nIZ,.agg #[LJ 0,LJ (-1)]] w λe w'=>e=MN (L9 true)/\LX w w':=by
 have ag:Hid _:=akO (w.alloc (.cells #[LJ 0,LJ (-1)] 86));go_enter func58,ntmps58;have A{G}(h:G:=by
 go_ret;exact⟨rfl,Qn⟩):=LG h;exact Xw
def acG (k:Int)(hg:QZ w):MC 21 #[erW k,LJ k] w λe w'=>e=MN (L9 true)/\LX w w':=by
 have aV:=hide (ae9 k w);have bS:Hid (∀ L,QZ L->MC 58 #[erW k,.agg #[LJ k,LJ (-1)]] L λe w'=>e=MN (L9 true)/\LX L w'):=by
  intro L aO;unfold erW
  by_cases N:k=0
  ·subst N;rw[zalak rfl];exact at_nil L
  ·rw[zalah N];exact as1 k L aO
 have f3:=hide hg
 generalize erW k=v at *
 go_enter func21,ntmps21;go_wp2_with fail;refine cm aV.out ?_;rintro e w1 ⟨rfl,D⟩;have ba:=hide D;have b7:=hide (Lu bS w1 (RZ f3.out D));go_wp2_with fail;refine cm b7.out ?_;rintro e w2 ⟨rfl,D⟩;have bj:=hide (ba.out.trans (D.mono ba.out.size));go_wp2;go_ret;exact⟨rfl,bj.out⟩
