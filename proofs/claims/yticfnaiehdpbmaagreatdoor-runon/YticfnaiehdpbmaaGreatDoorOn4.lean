import Derived.Test.YticfnaiehdpbmaaGreatDoorOn3
import Derived.ChangeAlike
import Derived.Deep.DrawnRows
import Derived.Deep.AppendLies
set_option maxRecDepth 100000
set_option maxHeartbeats 8000000
set_option linter.all false
namespace Go.Proofs.YticfnaiehdpbmaaGreatDoor
open Go.RowKit Go.Proofs.Tryz
def RU (aY bb:List OH)(s:OH)(k:Nat):Rd:=
 if abb ((bt s k).toNat:Int)=true then TG aY s k
 else if Ql ((bt s k).toNat:Int)=true then rdNum s k
 else if bt s k=39 then rdStr s k
 else Uk bb s k
structure Lists (aY bb:List OH)(w:Ov):Prop where
 lw:aY.length=19
 lg:bb.length=19
 zg:∀ i,i<19->(bb.getD i ByteArray.empty).size<=3
 hw:∃ t fr,w.heap[6]? = some (.cells (aY.map Value.string).toArray t fr)
 hg:∃ t fr,w.heap[2]? = some (.cells (bb.map Value.string).toArray t fr)
def Lists.lt {aY bb:List OH}{w:Ov}(h:Lists aY bb w):6<w.heap.size:=by
 obtain⟨t,fr,hg⟩:=h.hw;exact(Array.getElem?_eq_some_iff.1 hg).1
def Lists.later {aY bb:List OH}{w w':Ov}(h:Lists aY bb w)(D:OD w w'):Lists aY bb w':=by
 obtain⟨t,fr,hw⟩:=h.hw;obtain⟨t2,vK,hg⟩:=h.hg;have hl:=(Array.getElem?_eq_some_iff.1 hw).1;have gn:=(Array.getElem?_eq_some_iff.1 hg).1;exact⟨h.lw,h.lg,h.zg,⟨t,fr,by rw[D.block 6 Ou];exact hw⟩,⟨t2,vK,by rw[D.block 2 Ou];exact hg⟩⟩
section
variable (aY bb:List OH) (s:OH) (k:Nat) (kd n:Int) (tx:OH) (e:Nat) (w:Ov) (ac:s.size<=3000) (E:k<s.size) (dr:Lists aY bb w)
include aY bb s k kd n tx e w ac E dr
theorem afD (hl:abb (s[k].toNat:Int)=true)(aa:TG aY s k=.tok kd tx n e) :
  OE 68 #[OB s,Ol (k:Int)] w (Uy k (.tok kd tx n e) w):=by
 have z:=Oq (∀{G}(h:G:=by
 have z:=Oq (∀{G}(h:G:=by
 rintro kg b7 ⟨rfl,e3⟩;have nR:=hbel.trans (e3.mono hbel.size);exact aDL),G);exact aE3),G);exact aEj
theorem ahR (hl:abb (s[k].toNat:Int)=false)(hd:Ql (s[k].toNat:Int)=true)(aa:rdNum s k=.tok kd tx n e) :
  OE 68 #[OB s,Ol (k:Int)] w (Uy k (.tok kd tx n e) w):=by
 have z:=Oq (∀{G}(h:G:=by
 have gi:=aaU s k bA ac E d4.out;rw[dj.out] at gi;refine cm gi ?_;exact ayn),G);exact zsr
theorem ahS (hl:abb (s[k].toNat:Int)=false)(hd:Ql (s[k].toNat:Int)=false)(ag:(((s[k].toNat:Nat):Int)==39)=true)(aa:rdStr s k=.tok kd tx n e) :
  OE 68 #[OB s,Ol (k:Int)] w (Uy k (.tok kd tx n e) w):=by
 have z:=Oq (∀{G}(h:G:=by
 have gi:=aaV s k bA ac E;rw[dj.out] at gi;refine cm gi ?_;exact ayn),G);exact zsr
theorem afE (hl:abb (s[k].toNat:Int)=false)(hd:Ql (s[k].toNat:Int)=false)(ag:(((s[k].toNat:Nat):Int)==39)=false)(aa:Uk bb s k=.tok kd tx n e) :
  OE 68 #[OB s,Ol (k:Int)] w (Uy k (.tok kd tx n e) w):=by
 have z:=Oq (∀{G}(h:G:=by
 have z:=Oq (∀{G}(h:G:=by
 clear hg;exact ayn),G);exact aE4),G);exact zsr
end
section
variable (aY bb:List OH) (s:OH) (k:Nat) (er:Int) (p:Nat) (w:Ov) (ac:s.size<=3000) (E:k<s.size) (dr:Lists aY bb w)
include aY bb s k er p w ac E dr
theorem ady (hl:abb (s[k].toNat:Int)=true)(aa:TG aY s k=.bad er p) :
  OE 68 #[OB s,Ol (k:Int)] w (Uy k (.bad er p) w):=by
 have z:=Oq (∀{G}(h:G:=by
 have z:=Oq (∀{G}(h:G:=by
 rintro kg b7 ⟨b,rfl,D,h9,Aw⟩;have nR:=hbel.trans (Aw.mono hbel.size);have rq:=Nat.le_trans hbel.size h9;exact aDI),G);exact aE3),G);exact aEj
theorem afF (hl:abb (s[k].toNat:Int)=false)(hd:Ql (s[k].toNat:Int)=true)(aa:rdNum s k=.bad er p) :
  OE 68 #[OB s,Ol (k:Int)] w (Uy k (.bad er p) w):=by
 have z:=Oq (∀{G}(h:G:=by
 have gi:=aaU s k bA ac E d4.out;rw[dj.out] at gi;refine cm gi ?_;exact axW),G);exact zsr
theorem afG (hl:abb (s[k].toNat:Int)=false)(hd:Ql (s[k].toNat:Int)=false)(ag:(((s[k].toNat:Nat):Int)==39)=true)(aa:rdStr s k=.bad er p) :
  OE 68 #[OB s,Ol (k:Int)] w (Uy k (.bad er p) w):=by
 have z:=Oq (∀{G}(h:G:=by
 have gi:=aaV s k bA ac E;rw[dj.out] at gi;refine cm gi ?_;exact axW),G);exact zsr
theorem adz (hl:abb (s[k].toNat:Int)=false)(hd:Ql (s[k].toNat:Int)=false)(ag:(((s[k].toNat:Nat):Int)==39)=false)(aa:Uk bb s k=.bad er p) :
  OE 68 #[OB s,Ol (k:Int)] w (Uy k (.bad er p) w):=by
 have z:=Oq (∀{G}(h:G:=by
 have z:=Oq (∀{G}(h:G:=by
 clear hg;exact axW),G);exact aE4),G);exact zsr
end
def ahT (aY bb:List OH)(s:OH)(k:Nat)(w:Ov)(ac:s.size<=3000)(E:k<s.size)(dr:Lists aY bb w) :
  OE 68 #[OB s,Ol (k:Int)] w (Uy k (RU aY bb s k) w):=by
 have e5:=ak2 s k E;have D:=XM s[k] 39;unfold RU;rw[e5]
 cases hl:abb (s[k].toNat:Int)
 ·rw[if_neg O8]
  cases hd:Ql (s[k].toNat:Int)
  ·rw[if_neg O8]
   by_cases ag:s[k]=39
   ·rw[if_pos ag];have eU:(((s[k].toNat:Nat):Int)==39)=true:=by rw[ag];rfl
    cases aa:rdStr s k with
    | tok kd tx n e=>exact ahS aY bb s k kd n tx e w ac E dr hl hd eU aa
    | bad er p=>exact afG aY bb s k er p w ac E dr hl hd eU aa
   ·rw[if_neg ag];have eU:(((s[k].toNat:Nat):Int)==39)=false:=by rw[show (39:Int)=(((39:UInt8).toNat:Nat):Int) from rfl,D];simp[ag]
    cases aa:Uk bb s k with
    | tok kd tx n e=>exact afE aY bb s k kd n tx e w ac E dr hl hd eU aa
    | bad er p=>exact adz aY bb s k er p w ac E dr hl hd eU aa
  ·rw[if_pos rfl]
   cases aa:rdNum s k with
   | tok kd tx n e=>exact ahR aY bb s k kd n tx e w ac E dr hl hd aa
   | bad er p=>exact afF aY bb s k er p w ac E dr hl hd aa
 ·rw[if_pos rfl]
  cases aa:TG aY s k with
  | tok kd tx n e=>exact afD aY bb s k kd n tx e w ac E dr hl aa
  | bad er p=>exact ady aY bb s k er p w ac E dr hl aa
structure Tk where
 kd:Int
 tx:OH
 n:Int
 pl:Nat
inductive TR where
 | ok (l:List Tk)
 | bad (er:Int) (p:Nat)
def RH (aY bb:List OH)(s:OH)(i:Nat)(aX:List Tk):TR:=
 if h:i<s.size then
  match RU aY bb s i with
  | .tok kd tx n e=>if U:i<e then RH aY bb s (OT Qe s e) (aX++[⟨kd,tx,n,i⟩]) else .bad 0 0
  | .bad er p=>.bad er p
 else .ok (aX++[⟨6,⟨#[]⟩,0,s.size⟩])
termination_by s.size - i
decreasing_by
 have:=Us Qe s e;omega
section
variable (aY bb:List OH) (s:OH) (i:Nat) (aX:List Tk)
include aY bb s i aX
def UN (h:¬ i<s.size):RH aY bb s i aX=.ok (aX++[⟨6,⟨#[]⟩,0,s.size⟩]):=by rw[RH,dif_neg h]
def WX (er:Int)(p:Nat)(h:i<s.size)(aa:RU aY bb s i=.bad er p):RH aY bb s i aX=.bad er p:=by rw[RH,dif_pos h,aa]
def Qh (kd n:Int)(tx:OH)(e:Nat)(h:i<s.size)(aa:RU aY bb s i=.tok kd tx n e)(aq:i<e):RH aY bb s i aX=RH aY bb s (OT Qe s e) (aX++[⟨kd,tx,n,i⟩]):=by
 conv=>lhs;rw[RH]
 rw[dif_pos h,aa];simp only;rw[dif_pos aq]
end
def ah4 (s:OH):∀ n i said l e,s.size - i=n->U8 s i said=.ok l e->i<e/\e<=s.size/\l.length<=said.length+(s.size - i):=by
 intro n
 induction n using Nat.strongRecOn with
 | ind n bn=>
  intro i said l e az h
  by_cases aQ:i<s.size
  ·by_cases c1:bt s i=39
   ·rw[Vo s i said aQ c1] at h;cases h;exact⟨by omega,by omega,by omega⟩
   ·by_cases c2:bt s i=10
    ·rw[abq s i said aQ c2] at h;cases h
    ·by_cases c3:bt s i=92
     ·by_cases h1:i+1<s.size
      ·
       cases aS:esc (bt s (i+1)) with
       | none=>rw[Ud s i said aQ c3 (fun _=>aS)] at h;cases h
       | some m=>
        rw[Xr s i said m aQ c3 h1 aS] at h;have:=bn (s.size - (i+2)) Ou (i+2) _ l e rfl h;rw[List.length_append,List.length_singleton] at this;omega
      ·rw[Ud s i said aQ c3 (fun hh=>absurd hh h1)] at h;cases h
     ·rw[Vp s i said aQ c1 c2 c3] at h;have:=bn (s.size - (i+1)) Ou (i+1) _ l e rfl h;rw[List.length_append,List.length_singleton] at this;omega
  ·rw[ZU s i said aQ] at h;cases h
def VX (aY bb:List OH)(s:OH)(k:Nat)(kd n:Int)(tx:OH)(e:Nat)(E:k<s.size)(hg:∀ g ∈ bb,1<=g.size)
  (h:RU aY bb s k=.tok kd tx n e):k<e/\e<=s.size:=by
 have e5:=ak2 s k E;unfold RU at h;rw[e5] at h
 split at h
 ·rename_i hl
  have Jf:Vf (s[k].toNat:Int)=true:=by unfold Vf;rw[hl];rfl
  have h1:=Yp Vf s k E Jf;have U:=Us Vf s (k+1);have aw:=QL Vf s k Ou;unfold TG at h
  split at h
  ·
   cases h;omega
  ·split at h
   ·
    cases h
   ·
    cases h;omega
 ·split at h
  ·rename_i hd
   have h1:=Yp Ql s k E hd;have U:=Us Ql s (k+1);have aw:=QL Ql s k Ou;unfold rdNum at h
   split at h
   ·
    cases h
   ·split at h
    ·
     cases h
    ·split at h
     ·
      cases h
     ·
      cases h;omega
  ·split at h
   ·unfold rdStr at h
    cases aa:U8 s (k+1) [] with
    | ok said g0=>
     rw[aa] at h;simp only at h;have D:=ah4 s _ (k+1) [] said g0 rfl aa
     split at h
     ·
      cases h
     ·
      cases h;omega
    | bad p=>rw[aa] at h;cases h
   ·unfold Uk at h
    cases aH:bb.find? (fun g=>YJ (s.extract k s.size) g) with
    | none=>rw[aH] at h;cases h
    | some g=>
     rw[aH] at h;obtain⟨_,_,_,aq⟩:=Rd.tok.inj h;have aS:=List.mem_of_find?_eq_some aH;have al:=List.find?_some aH;have h1:=hg g aS;simp only[YJ,Bool.and_eq_true,decide_eq_true_eq] at al;have aI:=extract_size s k s.size Ou O6;omega
def WO (t:Tk):List OG:=[Ol t.kd,OB t.tx,Ol t.n,Ol (t.pl:Int)]
def Rj (l:List Tk):List OG:=l.flatMap WO
def Y0 (l:List Tk)(t:Tk):Rj (l++[t])=Rj l++WO t:=by simp[Rj]
def akP (r:TR)(w:Ov)(e:Ending)(w':Ov):Prop:=
 match r with
 | .ok l=>∃ v,e=OQ (.tuple #[v,.nilIface])/\w'.ownsRow w.heap.size 144 4 v l.length (Rj l)/\OD w w'
 | .bad er p=>∃ b,e=OQ (.tuple #[.slice none 0 0,.iface 150 (OM b 0)])/\w'.heap[b]? = some (O1 #[Ol er,Ol (p:Int)] 152)/\w.heap.size<=b/\OD w w'
def ayU:(prog.info? 144).map (fun i=>(i.zero,i.size,i.bytes))=some (some YW,4,40):=by kernel_rfl
def aj0 {wr ap:Ov}{B:Nat}{v:OG}{n:Nat}{xs:List OG}(D:OD wr ap)(h:wr.ownsRow B 144 4 v n xs):ap.ownsRow B 144 4 v n xs:=by
 obtain⟨hl,h0|⟨g,cap,cj,av,pL,hh,aa⟩⟩:=h
 ·exact⟨hl,Or.inl h0⟩
 ·exact⟨hl,Or.inr ⟨g,cap,cj,av,pL,by rw[D.block g (Array.getElem?_eq_some_iff.1 hh).1];exact hh,aa⟩⟩
def anc {w:Ov}{B B':Nat}{v:OG}{n:Nat}{xs:List OG}(D:B'<=B)(h:w.ownsRow B 144 4 v n xs):w.ownsRow B' 144 4 v n xs:=by
 obtain⟨hl,h0|⟨g,cap,cj,av,pL,aa⟩⟩:=h
 ·exact⟨hl,Or.inl h0⟩
 ·exact⟨hl,Or.inr ⟨g,cap,cj,av,by omega,aa⟩⟩
def aei {B:Nat}{ep k0 w1:Ov}{v:OG}{n:Nat}{xs:List OG}(a8:Below B ep k0)(dd:B<=k0.heap.size)(hown:k0.ownsRow B 144 4 v n xs)(hg:k0.grownBy w1 v.ownBlock) :
  Below B ep w1:=a8.grown hg dd (fun k E=>by
  obtain⟨_,⟨rfl,_⟩|⟨g,cap,cj,rfl,pL,_⟩⟩:=hown
  ·simp[Value.ownBlock] at E
  ·simp[Value.ownBlock] at E;omega)
def ahz (s:OH)(w:Ov)(ac:3000<s.size) :
  OE 33 #[OB s] w fun e w'=>e=OQ (.tuple #[QD,.iface 34 (Ol 4)])/\w'=w:=by
 go_enter func33,ntmps33
 go_wp2
 go_ret2
 exact⟨rfl,rfl⟩
def ajJ (aY bb:List OH)(s:OH)(w:Ov)(ac:s.size<=3000)(dr:Lists aY bb w)(h5:∀ g ∈ bb,1<=g.size) :
  OE 33 #[OB s] w (akP (RH aY bb s (OT Qe s 0) []) w):=by
 obtain⟨i0,am,dA,b9,cn⟩:=info_parts ayU;obtain⟨r,aa⟩:∃ r,RH aY bb s (OT Qe s 0) []=r:=⟨_,rfl⟩;have dj:=hide aa;rw[aa];have F9:=hide h5;clear aa h5;go_enter func33,ntmps33;go_wp2_with fail;refine(ad6 _ _).mono ?_;rintro ay w1 ⟨x,rfl,ae,hbel⟩;have dQ:=(ae.congr atg);go_wp2_with fail;refine(Yq s 0 x Qe w1 (by unfold maxLen;omega) (Nat.zero_le _) dQ).mono ?_
 rintro bz w2 ⟨rfl,rfl⟩;have n6:=QL Qe s 0 (Nat.zero_le _);obtain⟨aZ,al⟩:∃ aZ,OT Qe s 0=aZ:=⟨_,rfl⟩;rw[al] at n6 ⊢;have bj:Hid (RH aY bb s aZ []=r):=by show _=_;rw[<-al];exact Om dj
 clear al;go_wp2_with fail
 go_loopw [5,6,7,8,9] (fun v i _ _ _ wr=>∃ (j:Nat) (aX:List Tk),j<=s.size/\aX.length<=j/\i=Ol j/\RH aY bb s j aX=r/\wr.ownsRow w2.heap.size 144 4 v aX.length (Rj aX)/\OD w2 wr/\w2.heap.size<=wr.heap.size) (fun _ i _ _ _ _=>s.size - (intOf i).toNat)
 case atStart=>exact⟨aZ,[],n6,by simp,rfl,bj.out,World.ownsRow_nil _ _ _ _,QX,O6⟩
 case round=>
  obtain⟨j,aX,aN,oM,rfl,aq,hown,a8,dd⟩:=hrel;have dH:=hide aq;clear aq;have Dy:=(dr.later hbel).later a8
  by_cases aQ:j<s.size
  ·
   cases ba:RU aY bb s j with
   | tok kd tx n e=>
    have D:=VX aY bb s j kd n tx e aQ F9.out ba;have hZ:=hide ((Qh aY bb s j aX kd n tx e aQ ba D.1).symm.trans dH.out);have hY:=hide ba;obtain⟨b6,aF⟩:=D;clear ba;go_wp2_with fail;have hread:=ahT aY bb s j wr ac aQ Dy;rw[hY.out] at hread;refine cm hread ?_;rintro ez ap ⟨rfl,br⟩;have Do:=a8.trans (br.mono dd);have d3:=Do;have CD:=(aj0 br hown);have hsz3:w2.heap.size<=ap.heap.size:=Do.size
    go_wp2_with (at_builtin;refine wpList_append_own _ rfl _ _ 88 rfl w2.heap.size 144 i0 YW 4 40 underlying88 am dA b9 cn rfl Oz _ _ _ rfl ((CD.alloc _).alloc _) (Ot (ap.heap.size+1) 0) 1 1 [Ol kd,OB tx,Ol n,Ol (j:Int)] rfl rfl ?c1 ?c2 ?c3 ?c4 ?c5 ?_)
    case c1=>
     exact aDW
    case c2=>
     intro u aT;simp only[List.mem_cons,List.not_mem_nil,or_false] at aT
     rcases aT with rfl|rfl|rfl|rfl <;> rfl
    case c3=>unfold maxLen;omega
    case c4=>omega
    case c5=>simp;omega
    intro v' b7 hown' hgrow _;have Ai:=aei ((d3.alloc hsz3 _).alloc Rh _) Rh ((CD.alloc _).alloc _) hgrow;have iE:=Ai;have zt:b7.ownsRow w2.heap.size 144 4 v' (aX++[Tk.mk kd tx n j]).length (Rj (aX++[Tk.mk kd tx n j])):=by
     show World.ownsRow _ _ _ _ _ _ _
     rw[Y0,List.length_append];exact hown'
    have pL:=Us Qe s e;have gc:=QL Qe s e aF;obtain⟨g0,t6⟩:∃ g0,OT Qe s e=g0:=⟨_,rfl⟩;rw[t6] at pL gc;have Cf:=hide t6;clear t6;go_wp2_with fail;have hpast:=Yq s e x Qe b7 (by unfold maxLen;omega) aF (dQ.later iE)
    rw[Cf.out] at hpast;refine hpast.mono ?_;rintro vF ch ⟨rfl,rfl⟩;go_wp2
    go_roundw
    case rel=>exact⟨g0,aX++[Tk.mk kd tx n j],gc,by simp;omega,rfl,by have:=Om hZ;rw[Cf.out] at this;exact this,zt,iE,iE.size⟩
    case measure=>simp[intOf];omega
   | bad er p=>
    have ag:r=.bad er p:=by rw[<-dH.out,WX aY bb s j aX er p aQ ba]
    have hY:=hide ba;clear ba;subst ag;go_wp2_with fail;have hread:=ahT aY bb s j wr ac aQ Dy;rw[hY.out] at hread;refine cm hread ?_;rintro ez ap ⟨b,rfl,D,h9,br⟩;have hT:=hide D;have d3:=(a8.trans (br.mono dd));have hsz3:=Nat.le_trans dd br.size;have rq:=Nat.le_trans dd h9;clear D;go_wp2
    go_ret2
    have dq:=hbel;refine⟨b,rfl,?_,Nat.le_trans dq.size rq,(dq.trans (d3.mono dq.size)).alloc (Nat.le_trans dq.size hsz3) _⟩;rw[Below.heap_alloc ap _ b (Array.getElem?_eq_some_iff.1 hT.out).1];exact Om hT
  ·have ag:r=.ok (aX++[Tk.mk 6 ⟨#[]⟩ 0 s.size]):=by rw[<-dH.out,UN aY bb s j aX aQ]
   subst ag
   go_wp2_with (at_builtin;refine wpList_append_own _ rfl _ _ 88 rfl w2.heap.size 144 i0 YW 4 40 underlying88 am dA b9 cn rfl Oz _ _ _ rfl (hown.alloc _) (Ot wr.heap.size 0) 1 1 [Ol 6,PN,Ol 0,Ol (s.size:Int)] rfl rfl ?c1 ?c2 ?c3 ?c4 ?c5 ?_)
   case c1=>
    exact aDW
   case c2=>
    intro u aT;simp only[List.mem_cons,List.not_mem_nil,or_false] at aT
    rcases aT with rfl|rfl|rfl|rfl <;> rfl
   case c3=>unfold maxLen;omega
   case c4=>omega
   case c5=>simp;omega
   intro v' b7 hown' hgrow _;have Ai:=aei (a8.alloc dd _) Rh (hown.alloc _) hgrow;have iE:=Ai;have zt:b7.ownsRow w2.heap.size 144 4 v' (aX++[Tk.mk 6 ⟨#[]⟩ 0 s.size]).length (Rj (aX++[Tk.mk 6 ⟨#[]⟩ 0 s.size])):=by
    show World.ownsRow _ _ _ _ _ _ _
    rw[Y0,List.length_append];exact hown'
   go_wp2
   go_ret2
   have dq:=hbel;exact⟨v',rfl,anc dq.size zt,dq.trans (iE.mono dq.size)⟩
inductive Tr where
 | mk (kd:Int) (tx:OH) (n:Int) (kids:List Tr)
def Tr.kd:Tr->Int | .mk k _ _ _=>k
def Tr.tx:Tr->OH | .mk _ t _ _=>t
def Tr.n:Tr->Int | .mk _ _ n _=>n
def Tr.kids:Tr->List Tr | .mk _ _ _ l=>l
inductive PR (α:Type) where
 | ok (x:α) (i:Nat)
 | bad (er:Int) (p:Nat)
 | out
def PR.bind {α β:Type}:PR α->(α->Nat->PR β)->PR β
 | .ok x i,f=>f x i
 | .bad er p,_=>.bad er p
 | .out,_=>.out
abbrev Ox:OH:=⟨#[]⟩
abbrev anL:OH:=⟨#[118,97,114]⟩
abbrev avO:OH:=⟨#[108,101,116]⟩
abbrev aik:OH:=⟨#[99,111,110,115,116]⟩
abbrev Qm:OH:=⟨#[102,117,110,99,116,105,111,110]⟩
abbrev tIf:OH:=⟨#[105,102]⟩
abbrev aaN:OH:=⟨#[101,108,115,101]⟩
abbrev ail:OH:=⟨#[119,104,105,108,101]⟩
abbrev anM:OH:=⟨#[119,105,116,104]⟩
abbrev aen:OH:=⟨#[114,101,116,117,114,110]⟩
abbrev ain:OH:=⟨#[116,104,114,111,119]⟩
abbrev abJ:OH:=⟨#[116,114,121]⟩
abbrev UH:OH:=⟨#[99,97,116,99,104]⟩
abbrev QM:OH:=⟨#[102,105,110,97,108,108,121]⟩
abbrev arI:OH:=⟨#[116,121,112,101,111,102]⟩
abbrev arJ:OH:=⟨#[100,101,108,101,116,101]⟩
abbrev abK:OH:=⟨#[116,114,117,101]⟩
abbrev Y2:OH:=⟨#[102,97,108,115,101]⟩
abbrev akh:OH:=⟨#[110,117,108,108]⟩
abbrev avP:OH:=⟨#[117,110,100,101,102,105,110,101,100]⟩
abbrev Rk:OH:=⟨#[40]⟩
abbrev SA:OH:=⟨#[41]⟩
abbrev Ug:OH:=⟨#[123]⟩
abbrev WE:OH:=⟨#[125]⟩
abbrev Qv:OH:=⟨#[59]⟩
abbrev abL:OH:=⟨#[44]⟩
abbrev aeo:OH:=⟨#[58]⟩
abbrev arK:OH:=⟨#[46]⟩
abbrev tEq:OH:=⟨#[61]⟩
abbrev tOr:OH:=⟨#[124,124]⟩
abbrev aGr:OH:=⟨#[38,38]⟩
abbrev azU:OH:=⟨#[61,61,61]⟩
abbrev azV:OH:=⟨#[60]⟩
abbrev aGs:OH:=⟨#[43]⟩
abbrev aGt:OH:=⟨#[45]⟩
abbrev avR:OH:=⟨#[42]⟩
abbrev aGu:OH:=⟨#[33]⟩
abbrev VT:OH:=⟨#[115,116,114,105,99,116]⟩
abbrev alp:OH:=⟨#[117,115,101,32,115,116,114,105,99,116]⟩
structure Sg where
 tx:OH
 kd:Int
 parts:Int
 str:Int
def sgs:List Sg:=[⟨tOr,25,2,2⟩,⟨aGr,26,2,3⟩,⟨azU,27,2,4⟩,⟨azV,28,2,5⟩,⟨aGs,29,2,6⟩,⟨aGt,30,2,6⟩,⟨avR,31,2,7⟩,⟨aGu,32,1,8⟩,⟨arI,33,1,8⟩,⟨arJ,34,1,8⟩,⟨abK,19,0,10⟩,⟨Y2,20,0,10⟩,⟨akh,21,0,10⟩,⟨avP,22,0,10⟩]
def hds:List (OH × Int):=[(anL,2),(avO,3),(aik,4),(tIf,7),(ail,8),(anM,9),(aen,10),(ain,11)]
def Uj:List (OH × Nat):=[(anL,0),(avO,0),(aik,0),(Qm,1),(Ug,2),(Qv,3),(tIf,4),(ail,5),(anM,5),(aen,6),(ain,6),(abJ,7)]
def SY:List (OH × Nat):=[(Rk,0),(Ug,1),(Qm,2)]
def QG {β:Type}(l:List (OH × β))(s:OH):Option β:=(l.find? (fun e=>decide (s=e.1))).map (·.2)
def Zy (s:OH):Option Sg:=sgs.find? (fun e=>decide (s=e.tx))
def Zn (k:Int)(s:OH):Option Sg:=(Zy s).filter (fun e=>e.parts==k)
def Qu (s:OH):Int:=(QG hds s).getD 0
section
variable (l:List Tk)
def O9 (i:Nat):Tk:=l.getD i ⟨6,Ox,0,0⟩
def fx (i:Nat):OH:=if (O9 l i).kd==2||(O9 l i).kd==5 then (O9 l i).tx else Ox
def Tc {α:Type}(er:Int)(i:Nat):PR α:=.bad er (O9 l i).pl
def Pm (s:OH)(i:Nat):PR Unit:=if fx l i=s then .ok () (i+1) else Tc l 3 i
def nameP (i:Nat):PR OH:=if (O9 l i).kd=1 then .ok (O9 l i).tx (i+1) else Tc l 3 i
def PD (f:Nat->Nat->PR Tr)(d i:Nat):PR Tr:=if d=30 then Tc l 4 i else f (d+1) i
def isName (i:Nat):Bool:=(O9 l i).kd==1
def isVal (i:Nat):Bool:=(O9 l i).kd==1||(O9 l i).kd==3||(O9 l i).kd==4||(QG SY (fx l i)).isSome||((Zy (fx l i)).filter (fun e=>decide (e.parts<2))).isSome
structure SX where
 fuel:Nat
 st:Nat->Nat->PR Tr
 vl:Nat->Nat->PR Tr
 pr:Int->Nat->Nat->PR Tr
 sg:Nat->Nat->PR Tr
def azW:SX:=⟨0,fun _ _=>.out,fun _ _=>.out,fun _ _ _=>.out,fun _ _=>.out⟩
def QN (shut:OH)(begins:Nat->Bool)(part:Nat->PR Tr):Nat->List Tr->Nat->PR (List Tr)
 | 0,_,_=>.out
 | k+1,aX,i=>if aX.length=8/\begins i=true then Tc l 4 i else
  (part i).bind fun t a7=>if fx l a7=shut then .ok (aX++[t]) (a7+1) else
   (Pm l abL a7).bind fun _ i2=>QN shut begins part k (aX++[t]) i2
def UQ (opn shut:OH)(begins:Nat->Bool)(part:Nat->PR Tr)(k i:Nat):PR (List Tr):=
 (Pm l opn i).bind fun _ a7=>if fx l a7=shut then .ok [] (a7+1) else QN l shut begins part k [] a7
def Tv:Tr->Tr
 | .mk kd tx n (.mk bQ nu bR (.mk ds t2 c7 o'::bU)::r)=>.mk kd (if bQ=15/\ds=18/\t2=alp then VT else tx) n (.mk bQ nu bR (.mk ds t2 c7 o'::bU)::r)
 | t=>t
def Qa (F:SX)(d:Nat):Nat->List Tr->Nat->PR (List Tr)
 | 0,_,_=>.out
 | k+1,aX,i=>if fx l i=WE then .ok aX (i+1) else
  (PD l F.st d i).bind fun t a7=>Qa F d k (aX++[t]) a7
def PX (F:SX)(d i:Nat):PR Tr:=
 (Pm l Ug i).bind fun _ a7=>(Qa l F d F.fuel [] a7).bind fun ao i2=>.ok (.mk 6 Ox 0 ao) i2
def Td (i:Nat):PR Tr:=(nameP l i).bind fun s a7=>.ok (.mk 23 s 0 []) a7
def QY (F:SX)(i:Nat):PR Tr:=(UQ l Rk SA (isName l) (Td l) F.fuel i).bind fun ao a7=>.ok (.mk 40 Ox 0 ao) a7
def aaZ (F:SX)(d i:Nat):PR Tr:=PD l F.vl d i
def UZ (F:SX)(d i:Nat):PR Tr:=
 (nameP l i).bind fun s a7=>(Pm l aeo a7).bind fun _ i2=>(PD l F.vl d i2).bind fun t i3=>.ok (.mk 39 s 0 [t]) i3
def SC (F:SX)(d i:Nat):PR Tr:=
 (Pm l Rk i).bind fun _ a7=>(PD l F.vl d a7).bind fun t i2=>(Pm l SA i2).bind fun _ i3=>.ok t i3
def Tf (F:SX)(d i:Nat):PR Tr:=
 (UQ l Ug WE (isName l) (UZ l F d) F.fuel i).bind fun ao a7=>.ok (.mk 38 Ox 0 ao) a7
def Qy (F:SX)(kd:Int)(s:OH)(d i:Nat):PR Tr:=
 (QY l F i).bind fun ps a7=>(PX l F d a7).bind fun b i2=>.ok (.mk kd s 0 [ps,Tv b]) i2
def Ti (F:SX)(d i:Nat):PR Tr:=
 (Pm l Qm i).bind fun _ a7=>if isName l a7=true then (nameP l a7).bind fun s i2=>Qy l F 37 s d i2 else Qy l F 37 Ox d a7
def V9 (F:SX)(d i:Nat):PR Tr:=
 (Pm l Qm i).bind fun _ a7=>(nameP l a7).bind fun s i2=>Qy l F 5 s d i2
def SE (F:SX)(d i:Nat):PR Tr:=
 match QG SY (fx l i) with
 | some 0=>SC l F d i
 | some 1=>Tf l F d i
 | some _=>Ti l F d i
 | none=>
  match Zn 0 (fx l i) with
  | some s=>.ok (.mk s.kd Ox 0 []) (i+1)
  | none=>
   if (O9 l i).kd=1 then .ok (.mk 23 (O9 l i).tx 0 []) (i+1)
   else if (O9 l i).kd=4 then .ok (.mk 18 (O9 l i).tx 0 []) (i+1)
   else if (O9 l i).kd=3 then .ok (.mk 17 Ox (O9 l i).n []) (i+1)
   else Tc l 3 i
def Qr (F:SX)(d:Nat):Nat->Tr->Nat->PR Tr
 | 0,_,_=>.out
 | k+1,t,i=>
  if fx l i=arK then (nameP l (i+1)).bind fun s a7=>Qr F d k (.mk 36 s 0 [t]) a7
  else if fx l i=Rk then (UQ l Rk SA (isVal l) (aaZ l F d) F.fuel i).bind fun ao a7=>Qr F d k (.mk 35 Ox 0 (t::ao)) a7
  else .ok t i
def SG (F:SX)(d i:Nat):PR Tr:=(SE l F d i).bind fun t a7=>Qr l F d F.fuel t a7
def Ry (F:SX)(d i:Nat):PR Tr:=
 match Zn 1 (fx l i) with
 | some s=>(PD l F.sg d (i+1)).bind fun t a7=>.ok (.mk s.kd Ox 0 [t]) a7
 | none=>SG l F d i
def QO (F:SX)(least:Int)(d:Nat):Nat->Tr->Nat->PR Tr
 | 0,_,_=>.out
 | k+1,t,i=>
  match Zn 2 (fx l i) with
  | none=>.ok t i
  | some s=>if s.str<least then .ok t i else (F.pr (s.str+1) d (i+1)).bind fun u a7=>QO F least d k (.mk s.kd Ox 0 [t,u]) a7
def U0 (F:SX)(least:Int)(d i:Nat):PR Tr:=(F.sg d i).bind fun t a7=>QO l F least d F.fuel t a7
def Tj (F:SX)(d i:Nat):PR Tr:=
 (F.pr 2 d i).bind fun t a7=>if fx l a7=tEq then
   (if t.kd=23\/t.kd=36 then (PD l F.vl d (a7+1)).bind fun v i2=>.ok (.mk 24 Ox 0 [t,v]) i2 else Tc l 1 i)
  else .ok t a7
def WG (F:SX)(d i:Nat):PR Tr:=
 (nameP l (i+1)).bind fun s a7=>
  if Qu (O9 l i).tx=4/\¬ fx l a7=tEq then Tc l 3 a7
  else if fx l a7=tEq then (PD l F.vl d (a7+1)).bind fun v i2=>(Pm l Qv i2).bind fun _ i3=>.ok (.mk (Qu (O9 l i).tx) s 0 [v]) i3
  else (Pm l Qv a7).bind fun _ i2=>.ok (.mk (Qu (O9 l i).tx) s 0 []) i2
def Rz (F:SX)(d i:Nat):PR Tr:=
 (SC l F d (i+1)).bind fun v a7=>(PD l F.st d a7).bind fun s i2=>.ok (.mk (Qu (O9 l i).tx) Ox 0 [v,s]) i2
def Tn (F:SX)(d i:Nat):PR Tr:=
 (SC l F d (i+1)).bind fun v a7=>(PD l F.st d a7).bind fun s i2=>
  if fx l i2=aaN then (PD l F.st d (i2+1)).bind fun s2 i3=>.ok (.mk (Qu (O9 l i).tx) Ox 0 [v,s,s2]) i3
  else .ok (.mk (Qu (O9 l i).tx) Ox 0 [v,s]) i2
def TJ (F:SX)(d i:Nat):PR Tr:=
 if Qu (O9 l i).tx=11\/¬ fx l (i+1)=Qv then (PD l F.vl d (i+1)).bind fun v a7=>(Pm l Qv a7).bind fun _ i2=>.ok (.mk (Qu (O9 l i).tx) Ox 0 [v]) i2
 else (Pm l Qv (i+1)).bind fun _ i2=>.ok (.mk (Qu (O9 l i).tx) Ox 0 []) i2
def VK (F:SX)(d i:Nat):PR (List Tr):=
 if fx l i=UH then (Pm l Rk (i+1)).bind fun _ a7=>(nameP l a7).bind fun s i2=>(Pm l SA i2).bind fun _ i3=>(PX l F d i3).bind fun b i4=>.ok [.mk 13 s 0 [b]] i4
 else .ok [] i
def SH (F:SX)(d i:Nat):PR (List Tr):=
 if fx l i=QM then (PX l F d (i+1)).bind fun b a7=>.ok [.mk 14 Ox 0 [b]] a7
 else .ok [] i
def SI (F:SX)(d i:Nat):PR Tr:=
 (Pm l abJ i).bind fun _ i0=>(PX l F d i0).bind fun b a7=>(VK l F d a7).bind fun c i2=>(SH l F d i2).bind fun f i3=>
  if c.length+f.length=0 then Tc l 3 i3 else .ok (.mk 12 Ox 0 (b::(c++f))) i3
def Wh (F:SX)(d i:Nat):PR Tr:=(PD l F.vl d i).bind fun v a7=>(Pm l Qv a7).bind fun _ i2=>.ok (.mk 15 Ox 0 [v]) i2
def Wi (F:SX)(d:Nat):Nat->Nat->PR Tr
 | 0=>WG l F d
 | 1=>V9 l F d
 | 2=>PX l F d
 | 3=>fun i=>(Pm l Qv i).bind fun _ a7=>.ok (.mk 16 Ox 0 []) a7
 | 4=>Tn l F d
 | 5=>Rz l F d
 | 6=>TJ l F d
 | _=>SI l F d
def PY (F:SX)(d i:Nat):PR Tr:=
 match QG Uj (fx l i) with
 | some q=>Wi l F d q i
 | none=>Wh l F d i
def fns:Nat->SX
 | 0=>azW
 | k+1=>⟨k,PY l (fns k),Tj l (fns k),U0 l (fns k),Ry l (fns k)⟩
def PL (F:SX):Nat->List Tr->Nat->PR (List Tr)
 | 0,_,_=>.out
 | k+1,aX,i=>if (O9 l i).kd=6 then .ok aX i else
  (PD l F.st 0 i).bind fun t a7=>PL F k (aX++[t]) a7
def Uh (F:SX):PR Tr:=(PL l F F.fuel [] 0).bind fun ao i=>.ok (Tv (.mk 1 Ox 0 ao)) i
end
mutual
def Tr.count:Tr->Nat
 | .mk _ _ _ ks=>1+Tr.counts ks
def Tr.counts:List Tr->Nat
 | []=>0
 | t::ao=>t.count+Tr.counts ao
end
def Nx {α:Type}(q:Prop)(L a:Nat)(r:PR α):Prop:=(q->r≠.out)/\∀ x j,r=.ok x j->a<=j/\j<L
section
variable {α:Type} {q:Prop}
include α q
def Nx.ok {L a i:Nat}{x:α}(h1:a<=i)(U:i<L):Nx q L a (.ok x i):=
 ⟨fun _ h=>by (cases h),fun _ _ h=>by cases h;exact⟨h1,U⟩⟩
def Nx.bad {L a:Nat}{er:Int}{p:Nat}:Nx (α:=α) q L a (.bad er p):=
 ⟨fun _ h=>by (cases h),fun _ _ h=>by (cases h)⟩
def Nx.Tc {L a:Nat}{l:List Tk}{er:Int}{i:Nat}:Nx (α:=α) q L a (Tc l er i):=Nx.bad
end
def Nx.bind {α β:Type}{q:Prop}{L a b:Nat}{r:PR α}{f:α->Nat->PR β}(h:Nx q L a r)(aH:∀ x j,a<=j->j<L->Nx q L b (f x j)):Nx q L b (r.bind f):=by
 cases r with
 | ok x j=>exact aH x j (h.2 x j rfl).1 (h.2 x j rfl).2
 | bad er p=>exact Nx.bad
 | out=>exact⟨fun ag=>absurd rfl (h.1 ag),fun _ _ h=>by cases h⟩
def Nx.imp {α:Type}{q q':Prop}{L a:Nat}{r:PR α}(h:Nx q L a r)(ag:q'->q):Nx q' L a r:=⟨fun x=>h.1 (ag x),h.2⟩
def Nx.le {α:Type}{q:Prop}{L a b:Nat}{r:PR α}(h:Nx q L a r)(D:b<=a):Nx q L b r:=⟨h.1,fun x j e=>⟨Nat.le_trans D (h.2 x j e).1,(h.2 x j e).2⟩⟩
def Ends (l:List Tk):Prop:=∀ i,i<l.length->((O9 l i).kd=6↔i+1=l.length)
section
variable {l:List Tk} (aD:Ends l)
include aD
theorem TL {i:Nat}(am:i<l.length)(h:(O9 l i).kd≠6):i+1<l.length:=by
 have:=mt (aD i am).2 h;omega
theorem TK {i:Nat}{s:OH}(am:i<l.length)(h:fx l i=s)(ac:s≠Ox):i+1<l.length:=by
 refine TL aD am fun bX=>ac ?_;rw[<-h,fx,bX];rfl
theorem agi {β:Type}{ks:List (OH × β)}{x:β}{i:Nat}(am:i<l.length)(h:QG ks (fx l i)=some x)(h0:QG ks Ox=none):i+1<l.length:=by
 refine TK aD am rfl fun h1=>?_;rw[h1,h0] at h;cases h
theorem WS {k:Int}{x:Sg}{i:Nat}(am:i<l.length)(h:Zn k (fx l i)=some x):i+1<l.length:=by
 refine TK aD am rfl fun h1=>?_;rw[h1] at h;have:Zn k Ox=none:=by
  have:Zy Ox=none:=by decide
  simp[Zn,this]
 rw[this] at h;cases h
theorem QS {q:Prop}{s:OH}{i:Nat}(am:i<l.length)(ac:s≠Ox):Nx q l.length (i+1) (Pm l s i):=by
 unfold Pm
 split
 ·exact Nx.ok O6 (TK aD am ‹_› ac)
 ·exact Nx.Tc
theorem Ut {q:Prop}{i:Nat}(am:i<l.length):Nx q l.length (i+1) (nameP l i):=by
 unfold nameP
 split
 ·rename_i h
  exact Nx.ok O6 (TL aD am (by rw[h];decide))
 ·exact Nx.Tc
omit aD in
theorem QT {q:Prop}{f:Nat->Nat->PR Tr}{d i:Nat}(h:Nx q l.length (i+1) (f (d+1) i)):Nx q l.length (i+1) (PD l f d i):=by
 unfold PD
 split
 ·exact Nx.Tc
 ·exact h
theorem agj {q:Prop}{shut:OH}{begins:Nat->Bool}{part:Nat->PR Tr}{I:Nat}(ac:shut≠Ox)(al:∀ i,I<=i->i<l.length->Nx q l.length (i+1) (part i)) :
  ∀ k aX i,I<=i->i<l.length->Nx (q/\l.length - i<k) l.length (i+1) (QN l shut begins part k aX i):=by
 intro k
 induction k with
 | zero=>intro aX i _ _;exact⟨fun h=>absurd h.2 Ou,fun _ _ h=>by (cases h)⟩
 | succ k bn=>
  intro aX i oK am;unfold QN
  split
  ·exact Nx.Tc
  ·refine Nx.bind ((al i oK am).imp And.left) fun t j h1 U=>?_
   split
   ·exact Nx.ok Ou (TK aD U ‹_› ac)
   ·refine Nx.bind (QS aD U Oz) fun _ b' aw aL=>?_;exact((bn _ b' Ou aL).le Ou).imp fun h=>⟨h.1,by omega⟩
theorem Zz {q:Prop}{opn shut:OH}{begins:Nat->Bool}{part:Nat->PR Tr}{k i:Nat}(am:i<l.length)(aR:opn≠Ox)(ac:shut≠Ox)(ag:q->l.length - i<=k)(al:∀ j,i<j->j<l.length->Nx q l.length (j+1) (part j)) :
  Nx q l.length (i+1) (UQ l opn shut begins part k i):=by
 unfold UQ;refine Nx.bind (QS aD am aR) fun _ j h1 U=>?_
 split
 ·exact Nx.ok Ou (TK aD U ‹_› ac)
 ·exact((agj aD ac (I:=i+1) (fun j aw aL=>al j aw aL) k [] j h1 U).le Ou).imp fun h=>⟨h,by have:=ag h;omega⟩
structure FNx (l:List Tk)(k:Nat)(F:SX):Prop where
 fuel:F.fuel=k - 1
 st:∀ d i,i<l.length->Nx (8 * (l.length - i)+3<k) l.length (i+1) (F.st d i)
 vl:∀ d i,i<l.length->Nx (8 * (l.length - i)+2<k) l.length (i+1) (F.vl d i)
 pr:∀ b d i,i<l.length->Nx (8 * (l.length - i)+1<k) l.length (i+1) (F.pr b d i)
 sg:∀ d i,i<l.length->Nx (8 * (l.length - i)<k) l.length (i+1) (F.sg d i)
variable {k:Nat} {F:SX} (ah:FNx l k F)
include ah
theorem aez {q:Prop}{I:Nat}(ag:q->8 * (l.length - I)<=k+4):∀ n d aX i,I<i->i<l.length->Nx (q/\l.length - i<n) l.length (i+1) (Qa l F d n aX i):=by
 intro n
 induction n with
 | zero=>intro d aX i _ _;exact⟨fun h=>absurd h.2 Ou,fun _ _ h=>by (cases h)⟩
 | succ n bn=>
  intro d aX i oK am;unfold Qa
  split
  ·exact Nx.ok Ou (TK aD am ‹_› Oz)
  ·refine Nx.bind (QT ((ah.st (d+1) i am).imp fun h=>?_)) fun t j h1 U=>((bn d _ j Ou U).le Ou).imp fun h=>⟨h.1,by omega⟩;have:=ag h.1;omega
theorem Xc {q:Prop}{d i:Nat}(am:i<l.length)(ag:q->8 * (l.length - i)<=k+4):Nx q l.length (i+1) (PX l F d i):=by
 unfold PX;refine Nx.bind (QS aD am Oz) fun _ j h1 U=>?_;refine Nx.bind (((aez aD ah ag F.fuel d [] j Ou U).le (b:=j) Ou).imp fun h=>⟨h,?_⟩) fun ao b' aw aL=>Nx.ok Ou aL;have:=ag h;rw[ah.fuel];omega
omit ah in
theorem adK {q:Prop}{i:Nat}(am:i<l.length):Nx q l.length (i+1) (Td l i):=by
 unfold Td;exact Nx.bind (Ut aD am) fun s j h1 U=>Nx.ok h1 U
theorem aiv {q:Prop}{i:Nat}(am:i<l.length)(ag:q->8 * (l.length - i)<=k+4):Nx q l.length (i+1) (QY l F i):=by
 unfold QY;refine Nx.bind (Zz aD am Oz Oz (fun h=>?_) fun j _ h=>adK aD h) fun ao j h1 U=>Nx.ok h1 U;have:=ag h;rw[ah.fuel];omega
omit aD in
theorem aeA {q:Prop}{d i:Nat}(am:i<l.length)(ag:q->8 * (l.length - i)+2<k):Nx q l.length (i+1) (aaZ l F d i):=QT ((ah.vl _ _ am).imp ag)
section
variable {q:Prop} {d i:Nat} (am:i<l.length) (ag:q->8 * (l.length - i)<=k+4)
include q d i am ag
theorem agk:Nx q l.length (i+1) (UZ l F d i):=by
 unfold UZ;refine Nx.bind (Ut aD am) fun s j h1 U=>?_;refine Nx.bind (QS aD U Oz) fun _ b' aw aL=>?_;exact Nx.bind (QT ((ah.vl _ _ aL).imp fun h=>by have:=ag h;omega)) fun t gr bE bX=>Nx.ok Ou bX
theorem aah:Nx q l.length (i+1) (SC l F d i):=by
 unfold SC;refine Nx.bind (QS aD am Oz) fun _ b' aw aL=>?_;refine Nx.bind (QT ((ah.vl _ _ aL).imp fun h=>by have:=ag h;omega)) fun t gr bE bX=>?_
 exact Nx.bind (QS aD bX Oz) fun _ wS fY fQ=>Nx.ok Ou fQ
theorem aiw:Nx q l.length (i+1) (Tf l F d i):=by
 unfold Tf;refine Nx.bind (Zz aD am Oz Oz (fun h=>?_) fun j h1 h=>agk aD ah h fun hh=>by have:=ag hh;omega) fun ao j h1 U=>Nx.ok h1 U
 have:=ag h;rw[ah.fuel];omega
end
theorem Ya {q:Prop}{kd:Int}{s:OH}{d i:Nat}(am:i<l.length)(ag:q->8 * (l.length - i)<=k+4):Nx q l.length (i+1) (Qy l F kd s d i):=by
 unfold Qy;refine Nx.bind (aiv aD ah am ag) fun ps j h1 U=>?_;exact Nx.bind (Xc aD ah U fun h=>by have:=ag h;omega) fun b b' aw aL=>Nx.ok Ou aL
section
variable {q:Prop} {d i:Nat} (am:i<l.length) (ag:q->8 * (l.length - i)<=k+4)
include q d i am ag
theorem aix:Nx q l.length (i+1) (Ti l F d i):=by
 unfold Ti;refine Nx.bind (QS aD am Oz) fun _ j h1 U=>?_
 split
 ·refine Nx.bind (Ut aD U) fun s b' aw aL=>?_;exact(Ya aD ah aL fun h=>by have:=ag h;omega).le Ou
 ·exact(Ya aD ah U fun h=>by have:=ag h;omega).le Ou
theorem anY:Nx q l.length (i+1) (V9 l F d i):=by
 unfold V9;refine Nx.bind (QS aD am Oz) fun _ j h1 U=>?_;refine Nx.bind (Ut aD U) fun s b' aw aL=>?_;exact(Ya aD ah aL fun h=>by have:=ag h;omega).le Ou
theorem adJ:Nx q l.length (i+1) (SE l F d i):=by
 unfold SE
 split
 ·exact aah aD ah am ag
 ·exact aiw aD ah am ag
 ·exact aix aD ah am ag
 ·split
  ·rename_i s ac
   exact Nx.ok O6 (WS aD am ac)
  ·split
   ·rename_i h;exact Nx.ok O6 (TL aD am (by rw[h];decide))
   ·split
    ·rename_i h;exact Nx.ok O6 (TL aD am (by rw[h];decide))
    ·split
     ·rename_i h;exact Nx.ok O6 (TL aD am (by rw[h];decide))
     ·exact Nx.Tc
end
theorem aeB {q:Prop}{I:Nat}(ag:q->8 * (l.length - I)<=k+4):∀ n d t i,I<i->i<l.length->Nx (q/\l.length - i<n) l.length i (Qr l F d n t i):=by
 intro n
 induction n with
 | zero=>intro d aX i _ _;exact⟨fun h=>absurd h.2 Ou,fun _ _ h=>by (cases h)⟩
 | succ n bn=>
  intro d t i oK am;unfold Qr
  split
  ·have h0:=TK aD am ‹_› Oz;exact Nx.bind (Ut aD h0) fun s j h1 U=>((bn d _ j Ou U).le Ou).imp fun h=>⟨h.1,by omega⟩
  ·split
   ·refine Nx.bind (Zz aD am Oz Oz (fun h=>?_) fun j h1 h=>aeA ah h fun hh=>by have:=ag hh.1;omega) fun ao j h1 U=>((bn d _ j Ou U).le Ou).imp fun h=>⟨h.1,by omega⟩
    have:=ag h.1;rw[ah.fuel];omega
   ·exact Nx.ok O6 am
theorem alB {q:Prop}{d i:Nat}(am:i<l.length)(ag:q->8 * (l.length - i)<=k+4):Nx q l.length (i+1) (SG l F d i):=by
 unfold SG;refine Nx.bind (adJ aD ah am ag) fun t j h1 U=>((aeB aD ah ag F.fuel d t j Ou U).le Ou).imp fun h=>⟨h,?_⟩;have:=ag h;rw[ah.fuel];omega
theorem abQ {d i:Nat}(am:i<l.length):Nx (8 * (l.length - i)<k+1) l.length (i+1) (Ry l F d i):=by
 unfold Ry
 split
 ·rename_i s ac
  have h0:=WS aD am ac;exact Nx.bind (QT ((ah.sg _ _ h0).imp fun h=>by omega)) fun t j h1 U=>Nx.ok Ou U
 ·exact alB aD ah am fun h=>by omega
theorem aaO {q:Prop}{I:Nat}(ag:q->8 * (l.length - I)<=k+4):∀ n b d t i,I<i->i<l.length->Nx (q/\l.length - i<n) l.length i (QO l F b d n t i):=by
 intro n
 induction n with
 | zero=>intro b d aX i _ _;exact⟨fun h=>absurd h.2 Ou,fun _ _ h=>by (cases h)⟩
 | succ n bn=>
  intro b d t i oK am;unfold QO
  split
  ·exact Nx.ok O6 am
  ·rename_i s ac
   have h0:=WS aD am ac
   split
   ·exact Nx.ok O6 am
   ·refine Nx.bind ((ah.pr _ _ _ h0).imp fun h=>?_) fun u j h1 U=>((bn b d _ j Ou U).le Ou).imp fun h=>⟨h.1,by omega⟩;have:=ag h.1;omega
theorem anZ {b:Int}{d i:Nat}(am:i<l.length):Nx (8 * (l.length - i)+1<k+1) l.length (i+1) (U0 l F b d i):=by
 unfold U0;refine Nx.bind ((ah.sg _ _ am).imp fun h=>by omega) fun t j h1 U=>((aaO aD ah (I:=i) (q:=8 * (l.length - i)+1<k+1) (fun h=>by omega) F.fuel b d t j Ou U).le Ou).imp fun h=>⟨h,?_⟩;rw[ah.fuel];omega
theorem alC {d i:Nat}(am:i<l.length):Nx (8 * (l.length - i)+2<k+1) l.length (i+1) (Tj l F d i):=by
 unfold Tj;refine Nx.bind ((ah.pr _ _ _ am).imp fun h=>by omega) fun t j h1 U=>?_
 split
 ·have h0:=TK aD U ‹_› Oz
  split
  ·exact Nx.bind (QT ((ah.vl _ _ h0).imp fun h=>by omega)) fun v b' aw aL=>Nx.ok Ou aL
  ·exact Nx.Tc
 ·exact Nx.ok h1 U
theorem an0 {q:Prop}{d i:Nat}(am:i<l.length)(ag:q->8 * (l.length - i)+2<k):Nx q l.length (i+1) (Wh l F d i):=by
 unfold Wh;refine Nx.bind (QT ((ah.vl _ _ am).imp ag)) fun v j h1 U=>?_;exact Nx.bind (QS aD U Oz) fun _ b' aw aL=>Nx.ok Ou aL
section
variable {q:Prop} {d i:Nat} (am:i+1<l.length) (ag:q->8 * (l.length - i)<=k+4)
include q d i am ag
theorem an1:Nx q l.length (i+1) (WG l F d i):=by
 unfold WG;refine Nx.bind (Ut aD am) fun s j h1 U=>?_
 split
 ·exact Nx.Tc
 ·split
  ·have h0:=TK aD U ‹_› Oz;refine Nx.bind (QT ((ah.vl _ _ h0).imp fun h=>by have:=ag h;omega)) fun v b' aw aL=>?_
   exact Nx.bind (QS aD aL Oz) fun _ gr bE bX=>Nx.ok Ou bX
  ·exact Nx.bind (QS aD U Oz) fun _ gr bE bX=>Nx.ok Ou bX
theorem aiy:Nx q l.length (i+1) (Rz l F d i):=by
 unfold Rz;refine Nx.bind (aah aD ah am fun h=>by have:=ag h;omega) fun v j h1 U=>?_
 exact Nx.bind (QT ((ah.st _ _ U).imp fun h=>by have:=ag h;omega)) fun v b' aw aL=>Nx.ok Ou aL
theorem aiz:Nx q l.length (i+1) (Tn l F d i):=by
 unfold Tn;refine Nx.bind (aah aD ah am fun h=>by have:=ag h;omega) fun v j h1 U=>?_
 refine Nx.bind (QT ((ah.st _ _ U).imp fun h=>by have:=ag h;omega)) fun v b' aw aL=>?_
 split
 ·have h0:=TK aD aL ‹_› Oz;exact Nx.bind (QT ((ah.st _ _ h0).imp fun h=>by have:=ag h;omega)) fun v gr bE bX=>Nx.ok Ou bX
 ·exact Nx.ok Ou aL
theorem aiA:Nx q l.length (i+1) (TJ l F d i):=by
 unfold TJ
 split
 ·refine Nx.bind (QT ((ah.vl _ _ am).imp fun h=>by have:=ag h;omega)) fun v j h1 U=>?_
  exact Nx.bind (QS aD U Oz) fun _ b' aw aL=>Nx.ok Ou aL
 ·exact Nx.bind (QS aD am Oz) fun _ b' aw aL=>Nx.ok Ou aL
end
section
variable {q:Prop} {d i:Nat} (am:i<l.length) (ag:q->8 * (l.length - i)<=k+4)
include q d i am ag
theorem alD:Nx q l.length i (VK l F d i):=by
 unfold VK
 split
 ·have h0:=TK aD am ‹_› Oz;refine Nx.bind (QS aD h0 Oz) fun _ bK h1 U=>?_;refine Nx.bind (Ut aD U) fun _ b' aw aL=>?_;refine Nx.bind (QS aD aL Oz) fun _ gr bE bX=>?_;exact Nx.bind (Xc aD ah bX fun h=>by have:=ag h;omega) fun b wS fY fQ=>Nx.ok Ou fQ
 ·exact Nx.ok O6 am
theorem agl:Nx q l.length i (SH l F d i):=by
 unfold SH
 split
 ·have h0:=TK aD am ‹_› Oz;exact Nx.bind (Xc aD ah h0 fun h=>by have:=ag h;omega) fun b wS fY fQ=>Nx.ok Ou fQ
 ·exact Nx.ok O6 am
theorem agm:Nx q l.length (i+1) (SI l F d i):=by
 unfold SI;refine Nx.bind (QS aD am Oz) fun _ J9 h h0=>?_;refine Nx.bind (Xc aD ah h0 fun h=>by have:=ag h;omega) fun b bK h1 U=>?_
 refine Nx.bind (alD aD ah U fun h=>by have:=ag h;omega) fun c b' aw aL=>?_
 refine Nx.bind (agl aD ah aL fun h=>by have:=ag h;omega) fun f gr bE bX=>?_
 split
 ·exact Nx.Tc
 ·exact Nx.ok Ou bX
end
theorem an2 {q:Prop}{d i c:Nat}(am:i+1<l.length)(ag:q->8 * (l.length - i)<=k+4):Nx q l.length (i+1) (Wi l F d c i):=by
 unfold Wi
 split
 ·exact an1 aD ah am ag
 ·exact anY aD ah Ou ag
 ·exact Xc aD ah Ou ag
 ·exact Nx.bind (QS aD Ou Oz) fun _ j h1 U=>Nx.ok h1 U
 ·exact aiz aD ah am ag
 ·exact aiy aD ah am ag
 ·exact aiA aD ah am ag
 ·exact agm aD ah Ou ag
theorem YP {d i:Nat}(am:i<l.length):Nx (8 * (l.length - i)+3<k+1) l.length (i+1) (PY l F d i):=by
 unfold PY
 split
 ·rename_i c aj
  exact an2 aD ah (agi aD am aj Oz) fun h=>by omega
 ·exact an0 aD ah am fun h=>by omega
omit ah in
theorem Xz:∀ k,FNx l k (fns l k):=by
 intro k
 induction k with
 | zero=>exact⟨rfl,fun _ _ _=>⟨fun h=>absurd h Ou,fun _ _ h=>by (cases h)⟩,fun _ _ _=>⟨fun h=>absurd h Ou,fun _ _ h=>by (cases h)⟩,fun _ _ _ _=>⟨fun h=>absurd h Ou,fun _ _ h=>by (cases h)⟩,fun _ _ _=>⟨fun h=>absurd h Ou,fun _ _ h=>by (cases h)⟩⟩
 | succ k bn=>exact⟨rfl,fun _ _ am=>YP aD bn am,fun _ _ am=>alC aD bn am,fun _ _ _ am=>anZ aD bn am,fun _ _ am=>abQ aD bn am⟩
end
structure Ap (R B:Nat)(w w':Ov):Prop where
 os:w'.os=w.os
 tape:w'.tape=w.tape
 output:w'.output=w.output
 size:w.heap.size<=w'.heap.size
 block:∀ k,k<B->k≠R->w'.heap[k]? = w.heap[k]?
def Ap.refl (R B:Nat)(w:Ov):Ap R B w w:=⟨rfl,rfl,rfl,O6,fun _ _ _=>rfl⟩
def Ap.of {R B:Nat}{w w':Ov}(h:Below B w w'):Ap R B w w':=⟨h.os,h.tape,h.output,h.size,fun k E _=>h.block k E⟩
def Ap.trans {R B:Nat}{a b c:Ov}(h:Ap R B a b)(k:Ap R B b c):Ap R B a c:=
 ⟨k.os.trans h.os,k.tape.trans h.tape,k.output.trans h.output,Nat.le_trans h.size k.size,fun n az aa=>(k.block n az aa).trans (h.block n az aa)⟩
def Ap.mono {R B B':Nat}{w w':Ov}(h:Ap R B w w')(a8:B'<=B):Ap R B' w w':=⟨h.os,h.tape,h.output,h.size,fun k E=>h.block k (Nat.lt_of_lt_of_le E a8)⟩
def Ap.next {R:Nat}{a b c:Ov}(h:Ap R a.heap.size a b)(k:Ap R b.heap.size b c):Ap R a.heap.size a c:=h.trans (k.mono h.size)
section
variable {R B:Nat} {a w:Ov} (h:Ap R B a w)
include R B a w h
theorem Ap.drew:Ap R B a w.drew:=⟨h.os,h.tape,h.output,h.size,h.block⟩
theorem Ap.alloc (a8:B<=w.heap.size)(o:Obj):Ap R B a (w.alloc o):=
 h.trans (Ap.of ((Below.refl B w).alloc a8 o))
theorem Ap.setCell {p:Addr}(al:B<=p.block\/p.block=R)(u:OG):Ap R B a (w.setCell p u):=
 ⟨h.os,h.tape,h.output,by simpa using h.size,fun k E aa=>by rw[Below.heap_setCell w p u k Ou];exact h.block k E aa⟩
end
def Ap.grown {R B:Nat}{a w w':Ov}{row:Option Nat}(h:Ap R B a w)(hg:w.grownBy w' row)(a8:B<=w.heap.size)(aa:∀ k,row=some k->B<=k):Ap R B a w':=
 h.trans (Ap.of ((Below.refl B w).grown hg a8 aa))
section
variable {R B:Nat} {w w':Ov} (h:Ap R B w w')
include R B w w' h
theorem Ap.cell {p:Addr}(al:p.block<B)(aa:p.block≠R):w'.cell? p=w.cell? p:=World.cell?_of_block (w:=w) (h.block p.block al aa)
theorem Ap.below (a8:B<=R):Below B w w':=⟨h.os,h.tape,h.output,h.size,fun k E=>h.block k E Ou⟩
end
def lt_of_heap {w:Ov}{b:Nat}{o:Obj}(h:w.heap[b]? = some o):b<w.heap.size:=(Array.getElem?_eq_some_iff.1 h).1
abbrev Px (kd:Int)(tx:OH)(n:Int)(v:OG):Obj:=O1 #[Ol kd,OB tx,Ol n,v] 40
abbrev Oo (p:Nat):OG:=OM p 0
def anh (I:Nat->Prop)(w:Ov)(v:OG)(ps:List Nat):Prop:=w.ownsRow 0 22 1 v ps.length (ps.map Oo)/\∀ g,v.ownBlock=some g->I g
mutual
def Qb (I:Nat->Prop)(w:Ov):Tr->Nat->Prop
 | .mk kd tx n ks,p=>I p/\∃ v ps,w.heap[p]? = some (Px kd tx n v)/\anh I w v ps/\OL (fun b=>I b/\b≠p) w ks ps
def OL (I:Nat->Prop)(w:Ov):List Tr->List Nat->Prop
 | [],ps=>ps=[]
 | t::ao,ps=>∃ p eQ M,ps=p::eQ/\Qb (fun b=>I b/\b<M) w t p/\OL (fun b=>I b/\M<=b) w ao eQ
end
def Vg (I:Nat->Prop)(w w':Ov):Prop:=∀ b,I b->b<w.heap.size->w'.heap[b]? = w.heap[b]?
def RF {I:Nat->Prop}{w w':Ov}{B e sz:Nat}{v:OG}{n:Nat}{xs:List OG}(ax:Vg I w w')(oK:∀ g,v.ownBlock=some g->I g)(h:w.ownsRow B e sz v n xs):w'.ownsRow B e sz v n xs:=by
 refine⟨h.1,?_⟩
 rcases h.2 with az|⟨g,cap,cj,av,D,hg,rest⟩
 ·exact Or.inl az
 ·exact Or.inr ⟨g,cap,cj,av,D,by rw[ax g (oK g (by rw[av];rfl)) (lt_of_heap hg)];exact hg,rest⟩
mutual
def Qb.later {I:Nat->Prop}{w w':Ov}(ax:Vg I w w'):∀ (t:Tr) (p:Nat),Qb I w t p->Qb I w' t p
 | .mk kd tx n ks,p,h=>by
  rw[Qb] at h ⊢;obtain⟨al,v,ps,D,aa,E⟩:=h;exact⟨al,v,ps,by rw[ax p al (lt_of_heap D)];exact D,⟨RF ax aa.2 aa.1,aa.2⟩,OL.later (fun b D hl=>ax b D.1 hl) ks ps E⟩
def OL.later {I:Nat->Prop}{w w':Ov}(ax:Vg I w w'):∀ (ao:List Tr) (ps:List Nat),OL I w ao ps->OL I w' ao ps
 | [],ps,h=>by rw[OL] at h ⊢;exact h
 | t::ao,ps,h=>by
  rw[OL] at h ⊢;obtain⟨p,eQ,M,rfl,h1,U⟩:=h;exact⟨p,eQ,M,rfl,Qb.later (fun b D hl=>ax b D.1 hl) t p h1,OL.later (fun b D hl=>ax b D.1 hl) ao eQ U⟩
end
def Qj {w:Ov}{B e sz:Nat}{v:OG}{n:Nat}{xs:List OG}(h:w.ownsRow B e sz v n xs)(g:Nat)(hg:v.ownBlock=some g):g<w.heap.size/\B<=g:=by
 rcases h.2 with az|⟨g2,cap,cj,av,D,hh,rest⟩
 ·rw[az.1] at hg;cases hg
 ·rw[av] at hg;cases hg;exact⟨lt_of_heap hh,D⟩
mutual
def Qb.mono {I J:Nat->Prop}{w:Ov}(mq:∀ b,I b->b<w.heap.size->J b):∀ (t:Tr) (p:Nat),Qb I w t p->Qb J w t p
 | .mk kd tx n ks,p,h=>by
  rw[Qb] at h ⊢;obtain⟨al,v,ps,D,aa,E⟩:=h;exact⟨mq p al (lt_of_heap D),v,ps,D,⟨aa.1,fun g hg=>mq g (aa.2 g hg) (Qj aa.1 g hg).1⟩,OL.mono (fun b D hl=>⟨mq b D.1 hl,D.2⟩) ks ps E⟩
def OL.mono {I J:Nat->Prop}{w:Ov}(mq:∀ b,I b->b<w.heap.size->J b):∀ (ao:List Tr) (ps:List Nat),OL I w ao ps->OL J w ao ps
 | [],ps,h=>by rw[OL] at h ⊢;exact h
 | t::ao,ps,h=>by
  rw[OL] at h ⊢;obtain⟨p,eQ,M,rfl,h1,U⟩:=h;exact⟨p,eQ,M,rfl,Qb.mono (fun b D hl=>⟨mq b D.1 hl,D.2⟩) t p h1,OL.mono (fun b D hl=>⟨mq b D.1 hl,D.2⟩) ao eQ U⟩
end
def OL.parts {I:Nat->Prop}{w:Ov}{t:Tr}{ao:List Tr}{ps:List Nat}(h:OL I w (t::ao) ps):∃ p eQ,ps=p::eQ/\Qb I w t p/\OL I w ao eQ:=by
 rw[OL] at h;obtain⟨p,eQ,M,e,h1,U⟩:=h;exact⟨p,eQ,e,Qb.mono (fun b D _=>D.1) _ _ h1,OL.mono (fun b D _=>D.1) _ _ U⟩
def OL.length {I:Nat->Prop}{w:Ov}:∀ (ao:List Tr) (ps:List Nat),OL I w ao ps->ps.length=ao.length
 | [],ps,h=>by rw[OL] at h;rw[h];rfl
 | t::ao,ps,h=>by
  obtain⟨p,eQ,rfl,h1,U⟩:=h.parts;simp[OL.length ao eQ U]
section
variable {I:Nat->Prop} {w:Ov}
include I w
def OL.nil:OL I w [] []:=by rw[OL]
def OL.pair {M:Nat}{t u:Tr}{p q:Nat}(h:Qb (fun b=>I b/\b<M) w t p)(U:Qb (fun b=>I b/\M<=b) w u q):OL I w [t,u] [p,q]:=by
 rw[OL];refine⟨p,[q],M,rfl,h,?_⟩;rw[OL];exact⟨q,[],w.heap.size,rfl,Qb.mono (fun _ D hl=>⟨D,hl⟩) _ _ U,OL.nil⟩
def OL.cons {t:Tr}{p:Nat}(h:Qb I w t p)(_:OL I w [] []):OL I w [t] [p]:=by
 rw[OL];exact⟨p,[],w.heap.size,rfl,Qb.mono (fun _ D hl=>⟨D,hl⟩) _ _ h,OL.nil⟩
end
def OL.append {M:Nat}{w:Ov}{fE:List Tr}{dO:List Nat}:∀ (ao:List Tr) (ps:List Nat) {I:Nat->Prop},OL (fun b=>I b/\M<=b) w fE dO->OL (fun b=>I b/\b<M) w ao ps->OL I w (ao++fE) (ps++dO)
 | [],ps,I,aT,h=>by rw[OL] at h;subst h;exact OL.mono (fun b D _=>D.1) _ _ aT
 | t'::ao,ps,I,aT,h=>by
  rw[OL] at h;obtain⟨cz,eQ,N,rfl,h1,U⟩:=h
  show OL I w (t'::(ao++fE)) (cz::(eQ++dO))
  rw[OL];refine⟨cz,eQ++dO,min N M,rfl,Qb.mono (fun b D _=>⟨D.1.1,by have h1:=D.1.2;have U:=D.2;omega⟩) _ _ h1,OL.append ao eQ (OL.mono (fun b D _=>⟨⟨D.1,by have h1:=D.2;omega⟩,D.2⟩) _ _ aT) (OL.mono (fun b D _=>⟨⟨D.1.1,by have h1:=D.2;omega⟩,D.1.2⟩) _ _ U)⟩
def V5 (I:Nat->Prop)(w:Ov):List Tr->List Nat->Prop
 | [],ps=>ps=[]
 | t::ao,ps=>∃ p eQ,ps=p::eQ/\Qb I w t p/\V5 I w ao eQ
def OL.nl {I:Nat->Prop}{w:Ov}:∀ (ao:List Tr) (ps:List Nat),OL I w ao ps->V5 I w ao ps
 | [],ps,h=>by rw[OL] at h;exact h
 | t::ao,ps,h=>by
  obtain⟨p,eQ,rfl,h1,U⟩:=h.parts;exact⟨p,eQ,rfl,h1,OL.nl ao eQ U⟩
def V5.later {I:Nat->Prop}{w w':Ov}(ax:Vg I w w'):∀ (ao:List Tr) (ps:List Nat),V5 I w ao ps->V5 I w' ao ps
 | [],_,h=>h
 | _::ao,_,⟨p,eQ,e,h1,U⟩=>⟨p,eQ,e,Qb.later ax _ p h1,V5.later ax ao eQ U⟩
def V5.length {I:Nat->Prop}{w:Ov}:∀ (ao:List Tr) (ps:List Nat),V5 I w ao ps->ps.length=ao.length
 | [],_,h=>by rw[show _=_ from h];rfl
 | t::ao,ps,h=>by
  obtain⟨p,eQ,rfl,h1,U⟩:=h;simp[V5.length ao eQ U]
def V5.nil {I:Nat->Prop}{w:Ov}:V5 I w [] []:=rfl
def V5.cons {I:Nat->Prop}{w:Ov}{t:Tr}{p:Nat}{ao:List Tr}{ps:List Nat}(h:Qb I w t p)(U:V5 I w ao ps):V5 I w (t::ao) (p::ps):=⟨p,ps,rfl,h,U⟩
def V5.append {I:Nat->Prop}{w:Ov}{fE:List Tr}{dO:List Nat}(aT:V5 I w fE dO):∀ (ao:List Tr) (ps:List Nat),V5 I w ao ps->V5 I w (ao++fE) (ps++dO)
 | [],ps,h=>by rw[show ps=[] from h];exact aT
 | t'::ao,ps,h=>by
  obtain⟨cz,eQ,rfl,h1,U⟩:=h;exact V5.cons h1 (V5.append aT ao eQ U)
def NV (B:Nat)(w:Ov)(t:Tr)(v:OG):Prop:=∃ p,v=Oo p/\Qb (fun b=>B<=b) w t p
def EV (B:Nat)(w:Ov)(t:Tr)(v:OG):Prop:=
 ∃ p u ps,v=Oo p/\B<=p/\w.heap[p]? = some (Px t.kd t.tx t.n u)/\w.ownsRow B 22 1 u ps.length (ps.map Oo)/\u.ownBlock≠some p/\OL (fun b=>B<=b/\b≠p/\u.ownBlock≠some b) w t.kids ps
def KV (B:Nat)(w:Ov)(ao:List Tr)(v:OG):Prop:=
 ∃ ps,w.ownsRow B 22 1 v ps.length (ps.map Oo)/\OL (fun b=>B<=b/\v.ownBlock≠some b) w ao ps
def alf {w:Ov}{B e sz:Nat}{v:OG}{n:Nat}{xs:List OG}(h:w.ownsRow B e sz v n xs):w.ownsRow 0 e sz v n xs:=by
 refine⟨h.1,?_⟩
 rcases h.2 with az|⟨g,cap,cj,av,D,rest⟩
 ·exact Or.inl az
 ·exact Or.inr ⟨g,cap,cj,av,Nat.zero_le _,rest⟩
def EV.nv {B:Nat}{w:Ov}{t:Tr}{v:OG}(h:EV B w t v):NV B w t v:=by
 obtain⟨p,u,ps,rfl,al,D,aa,_,E⟩:=h
 cases t with
 | mk kd tx n ks=>
  refine⟨p,rfl,?_⟩;rw[Qb];exact⟨al,u,ps,D,⟨alf aa,fun g hg=>(Qj aa g hg).2⟩,OL.mono (fun b D _=>⟨D.1,D.2.1⟩) _ _ E⟩
def Vg.XO {R B:Nat}{I:Nat->Prop}{w w':Ov}(h:Ap R w.heap.size w w')(a8:R<B)(oK:∀ b,I b->B<=b):Vg I w w':=fun b D hl=>h.block b hl (by have:=oK b D;omega)
def NV.later {R B:Nat}{w w':Ov}{t:Tr}{v:OG}(h:NV B w t v)(ax:Ap R w.heap.size w w')(a8:R<B):NV B w' t v:=by
 obtain⟨p,rfl,al⟩:=h;exact⟨p,rfl,Qb.later (Vg.XO ax a8 fun _ h=>h) _ _ al⟩
def NV.mono {B B':Nat}{w:Ov}{t:Tr}{v:OG}(h:NV B w t v)(a8:B'<=B):NV B' w t v:=by
 obtain⟨p,rfl,al⟩:=h;exact⟨p,rfl,Qb.mono (fun b h _=>Nat.le_trans a8 h) _ _ al⟩
def EV.later {R B:Nat}{w w':Ov}{t:Tr}{v:OG}(h:EV B w t v)(ax:Ap R w.heap.size w w')(a8:R<B):EV B w' t v:=by
 obtain⟨p,u,ps,rfl,al,D,aa,aT,E⟩:=h;exact⟨p,u,ps,rfl,al,by rw[ax.block p (lt_of_heap D) Ou];exact D,RF (I:=fun b=>B<=b) (Vg.XO ax a8 fun _ h=>h) (fun g hg=>(Qj aa g hg).2) aa,aT,OL.later (Vg.XO ax a8 fun _ h=>h.1) _ _ E⟩
def EV.mono {B B':Nat}{w:Ov}{t:Tr}{v:OG}(h:EV B w t v)(a8:B'<=B):EV B' w t v:=by
 obtain⟨p,u,ps,rfl,al,D,aa,aT,E⟩:=h;refine⟨p,u,ps,rfl,by omega,D,?_,aT,OL.mono (fun b h _=>⟨by omega,h.2⟩) _ _ E⟩;refine⟨aa.1,?_⟩;exact azk
def KV.later {R B:Nat}{w w':Ov}{ao:List Tr}{v:OG}(h:KV B w ao v)(ax:Ap R w.heap.size w w')(a8:R<B):KV B w' ao v:=by
 obtain⟨ps,aa,E⟩:=h;exact⟨ps,RF (I:=fun b=>B<=b) (Vg.XO ax a8 fun _ h=>h) (fun g hg=>(Qj aa g hg).2) aa,OL.later (Vg.XO ax a8 fun _ h=>h.1) _ _ E⟩
def KV.nil (B:Nat)(w:Ov):KV B w [] QD:=⟨[],⟨rfl,Or.inl ⟨rfl,rfl⟩⟩,OL.nil⟩
def OA (w:Ov)(o:Obj):(w.alloc o).heap[w.heap.size]? = some o:=by simpa using heap_alloc_new w o
def EV.new {B:Nat}{w:Ov}{ao:List Tr}{v:OG}(h:KV B w ao v)(a8:B<=w.heap.size)(kd:Int)(tx:OH)(n:Int) :
  EV B (w.alloc (Px kd tx n v)) (.mk kd tx n ao) (Oo w.heap.size):=by
 obtain⟨ps,aa,E⟩:=h;have ac:∀ I,Vg I w (w.alloc (Px kd tx n v)):=fun I b _ hl=>Below.heap_alloc w _ b hl;refine⟨w.heap.size,v,ps,rfl,a8,OA _ _,RF (I:=fun _=>True) (ac _) (fun _ _=>trivial) aa,fun h=>?_,OL.later (ac _) _ _ (OL.mono (fun b h hl=>⟨h.1,by omega,h.2⟩) _ _ E)⟩;exact absurd (Qj aa _ h).1 Ou
def KV.row {B:Nat}{w:Ov}{ao:List Tr}{ps:List Nat}(h:OL (fun b=>B<=b) w ao ps)(a8:B<=w.heap.size)(hl:ps.length<=maxLen)(cs:Array OG)(aj:cs.toList=ps.map Oo) :
  KV B (w.alloc (.cells cs 22)) ao (.slice (some (Ot w.heap.size 0)) ps.length ps.length):=by
 have ac:∀ I,Vg I w (w.alloc (.cells cs 22)):=fun I b _ hl=>Below.heap_alloc w _ b hl;have aI:cs.size=ps.length:=by rw[<-Array.length_toList,aj,List.length_map]
 refine⟨ps,⟨by simp,Or.inr ⟨w.heap.size,ps.length,cs,rfl,a8,OA _ _,O6,hl,by omega,?_⟩⟩,OL.later (ac _) _ _ (OL.mono (fun b h hl=>⟨h,fun e=>by simp only[Value.ownBlock,Option.some.injEq] at e;omega⟩) _ _ h)⟩
 rw[aj];exact List.take_of_length_le O8
structure Ctx where
 R:Nat
 l:List Tk
 tb:Nat
 cap:Nat
 mS:Nat
 mT:Nat
 mV:Nat
 lo:Nat
def sgV (s:Sg):OG:=.agg #[OB s.tx,Ol s.kd,Ol s.parts,Ol s.str]
def mkE (e:(OH × OG) × Nat):MapEntry:={ key:=OB e.1.1,val:=e.1.2,born:=e.2 }
def mapOf (l:List (OH × OG)):Array MapEntry:=((l.zipIdx).map mkE).toArray
def akc:Array MapEntry:=mapOf (sgs.map fun e=>(e.tx,sgV e))
def Vh (R:Nat)(f:Nat):OG:=.func (.func f) #[OM R 0] #[]
def avw:Nat->Nat
 | 0=>147
 | 1=>148
 | 2=>149
 | 3=>150
 | 4=>151
 | 5=>152
 | 6=>153
 | _=>154
def afZ:Nat->Nat
 | 0=>155
 | 1=>156
 | _=>157
def af0 (R:Nat):Array MapEntry:=mapOf (Uj.map fun e=>(e.1,Vh R (avw e.2)))
def akd (R:Nat):Array MapEntry:=mapOf (SY.map fun e=>(e.1,Vh R (afZ e.2)))
def VQ:Array OG:=(hds.flatMap fun e=>[OB e.1,Ol e.2]).toArray
def Ctx.tv (c:Ctx):OG:=.slice (some (Ot c.tb 0)) c.l.length c.cap
structure Base (c:Ctx)(w:Ov):Prop where
 ends:Ends c.l
 tokens:∃ cj,w.heap[c.tb]? = some (O1 cj 144)/\c.l.length<=c.cap/\c.cap<=maxLen/\cj.size=c.cap * 4/\cj.toList.take (c.l.length * 4)=Rj c.l
 ntb:c.tb≠c.R
 signs:w.heap[c.mS]? = some (.map akc 14)
 nS:c.mS≠c.R
 azl:w.heap[c.mT]? = some (.map (af0 c.R) 12)
 nT:c.mT≠c.R
 vals:w.heap[c.mV]? = some (.map (akd c.R) 3)
 nV:c.mV≠c.R
 len:c.l.length<=3001
 heads:∃ t fr,w.heap[4]? = some (.cells VQ t fr)
 nH:4≠c.R
 old:c.tb<c.lo/\c.mS<c.lo/\c.mT<c.lo/\c.mV<c.lo/\4<c.lo/\c.R<c.lo
 size:c.lo<=w.heap.size
def Base.later {c:Ctx}{B:Nat}{w w':Ov}(h:Base c w)(ax:Ap c.R B w w')(a8:c.lo<=B):Base c w':=by
 obtain⟨h0,⟨cj,h1,Ie⟩,U,aw,aL,bE,bX,fY,fQ,hL,⟨t,fr,kR⟩,nQ,hK,tQ⟩:=h;exact⟨h0,⟨cj,by rw[ax.block _ Ou U];exact h1,Ie⟩,U,by rw[ax.block _ Ou aL];exact aw,aL,by rw[ax.block _ Ou bX];exact bE,bX,by rw[ax.block _ Ou fQ];exact fY,fQ,hL,⟨t,fr,by rw[ax.block _ Ou nQ];exact kR⟩,nQ,hK,Nat.le_trans tQ ax.size⟩
def azm (c:Ctx)(i d:Nat):Obj:=O1 #[c.tv,Ol (i:Int),Ol (d:Int),.map (some c.mS),.map (some c.mT),.map (some c.mV)] 233
structure PW (c:Ctx)(w:Ov)(i d:Nat):Prop where
 base:Base c w
 blk:w.heap[c.R]? = some (azm c i d)
 lt:i<c.l.length
 deep:d<=30
def PW.later {c:Ctx}{w w':Ov}{i d:Nat}(h:PW c w i d)(ax:OD w w'):PW c w' i d:=
 ⟨h.base.later (Ap.of ax) h.base.size,by rw[ax.block _ (lt_of_heap h.blk)];exact h.blk,h.lt,h.deep⟩
def PW.ap {c:Ctx}{B:Nat}{w w':Ov}{i d:Nat}(h:PW c w i d)(ax:Below B w w')(a8:c.lo<=B):PW c w' i d:=
 ⟨h.base.later (Ap.of ax) a8,by rw[ax.block _ (by have:=h.base.old;omega)];exact h.blk,h.lt,h.deep⟩
def PW.rlt {c:Ctx}{w:Ov}{i d:Nat}(h:PW c w i d):c.R<w.heap.size:=lt_of_heap h.blk
section
variable {w:Ov} {b:Nat} {cs:Array OG} {t:TypeId}
include w b cs t
def cell_of {fr:Nat × Nat}(h:w.heap[b]? = some (.cells cs t fr))(o:Nat):w.cell? (Ot b o)=cs[o]?:=by
 simp[World.cell?,h]
def Sv (h:w.heap[b]? = some (O1 cs t))(o:Nat):w.frozen? (Ot b o)=false:=by
 simp[World.frozen?,h]
end
section
variable {c:Ctx} {w:Ov} {i d:Nat} (h:PW c w i d)
include c w i d h
theorem PW.c0:w.cell? (Ot c.R 0)=some c.tv:=by rw[cell_of h.blk];rfl
theorem PW.c1:w.cell? (Ot c.R 1)=some (Ol (i:Int)):=by rw[cell_of h.blk];rfl
theorem PW.c2:w.cell? (Ot c.R 2)=some (Ol (d:Int)):=by rw[cell_of h.blk];rfl
theorem PW.c3:w.cell? (Ot c.R 3)=some (.map (some c.mS)):=by rw[cell_of h.blk];rfl
theorem PW.c4:w.cell? (Ot c.R 4)=some (.map (some c.mT)):=by rw[cell_of h.blk];rfl
theorem PW.c5:w.cell? (Ot c.R 5)=some (.map (some c.mV)):=by rw[cell_of h.blk];rfl
theorem PW.fz (o:Nat):w.frozen? (Ot c.R o)=false:=Sv h.blk o
end
def heap_set {w:Ov}{b o:Nat}{cs:Array OG}{t:TypeId}{fr:Nat × Nat}(h:w.heap[b]? = some (.cells cs t fr))(v:OG) :
  (w.setCell (Ot b o) v).heap[b]? = some (.cells (cs.setIfInBounds o v) t fr):=by
 obtain⟨hl,aq⟩:=Array.getElem?_eq_some_iff.1 h;have gn:b<(w.setCell (Ot b o) v).heap.size:=by simpa[World.setCell] using hl
 rw[Array.getElem?_eq_some_iff];refine⟨gn,?_⟩;simp only[World.setCell,Array.getElem_modify_self,aq];rfl
section
variable {c:Ctx} {w:Ov} {i d:Nat} (h:PW c w i d)
include c w i d h
theorem PW.go (j:Nat)(aN:j<c.l.length):PW c (w.setCell (Ot c.R 1) (Ol (j:Int))) j d:=
 ⟨h.base.later (Ap.setCell (R:=c.R) (Ap.refl _ _ _) (p:=(Ot c.R 1)) (Or.inr rfl) _) h.base.size,by rw[heap_set h.blk];rfl,aN,h.deep⟩
theorem PW.aGc (e:Nat)(aq:e<=30):PW c (w.setCell (Ot c.R 2) (Ol (e:Int))) i e:=
 ⟨h.base.later (Ap.setCell (R:=c.R) (Ap.refl _ _ _) (p:=(Ot c.R 2)) (Or.inr rfl) _) h.base.size,by rw[heap_set h.blk];rfl,h.lt,aq⟩
end
def Z9 (er:Int)(p:Nat):List PanicEntry:=[{ v:=.iface 148 (.agg #[Ol er,Ol (p:Int)]),recovered:=false }]
def Qn {α:Type}(c:Ctx)(w:Ov)(d:Nat)(V:Ov->α->OG->Prop)(r:PR α)(e:Ending)(w':Ov):Prop:=
 match r with
 | .ok x j=>(∃ v,e=OQ v/\V w' x v)/\PW c w' j d/\Ap c.R w.heap.size w w'
 | .bad er p=>e=.panicked (Z9 er p)/\Ap c.R w.heap.size w w'
 | .out=>True
def adE {a b:OH}(h:a≠b):(a.toList==b.toList)=false:=by
 rw[beq_eq_false_iff_ne,ByteArray.toList_eq,ByteArray.toList_eq];exact fun e=>h (Go.WideShapes.bytes_inj e)
def avh {a b:OH}(h:a=b):(a.toList==b.toList)=true:=by rw[h];exact beq_self_eq_true _
section
variable {a b:OH} {l:List UInt8} (hl:b.data.toList=l)
include a b l hl
theorem VJ (h:a≠b):(a.toList==l)=false:=by
 rw[<-hl,<-ByteArray.toList_eq];exact adE h
theorem V8 (h:a=b):(a.toList==l)=true:=by
 rw[<-hl,<-ByteArray.toList_eq];exact avh h
end
def tkV (t:Tk):OG:=.agg #[Ol t.kd,OB t.tx,Ol t.n,Ol (t.pl:Int)]
abbrev Pj (c:Ctx):OG:=OM c.R 0
def akV:∀ (l:List Tk) (i j:Nat),i<l.length->j<4->(Rj l)[i * 4+j]? =(WO (O9 l i))[j]?
 | [],i,j,h,_=>absurd h O8
 | t::l,0,j,_,aN=>by
  simp only[Rj,List.flatMap_cons,O9,List.getD_cons_zero,Nat.zero_mul,Nat.zero_add];rw[List.getElem?_append_left (by simp[WO];omega)]
 | t::l,i+1,j,h,aN=>by
  have bn:=akV l i j (by simpa using h) aN;simp only[Rj,List.flatMap_cons,O9,List.getD_cons_succ] at bn ⊢;rw[List.getElem?_append_right (by simp[WO];omega)]
  rw[show (i+1) * 4+j - (WO t).length=i * 4+j by simp[WO];omega]
  exact bn
def Base.tok {c:Ctx}{w:Ov}(h:Base c w)(i j:Nat)(am:i<c.l.length)(aN:j<4):w.cell? (Ot c.tb (i * 4+j))=(WO (O9 c.l i))[j]?:=by
 obtain⟨cj,D,h1,U,aw,aL⟩:=h.tokens;rw[cell_of D,<-akV c.l i j am aN,<-aL,List.getElem?_take_of_lt Ou,Array.getElem?_toList]
def Base.tlt {c:Ctx}{w:Ov}(h:Base c w):c.tb<w.heap.size:=by
 obtain⟨cj,D,_⟩:=h.tokens;exact lt_of_heap D
def RX (c:Ctx)(w:Ov)(i d:Nat)(h:PW c w i d) :
  OE 158 #[Pj c] w fun e w'=>e=OQ (tkV (O9 c.l i))/\OD w w':=by
 have h0:w.cell? (Ot c.R 0)=some (.slice (some (Ot c.tb 0)) c.l.length c.cap):=h.c0;have h1:=h.c1;have cE:=h.rlt;have dY:=h.base.tlt;have aQ:(i:Int)<(c.l.length:Int):=by have:=h.lt;omega
 have ce:w.cell? (Ot c.tb (i * 4))=some (Ol (O9 c.l i).kd):=h.base.tok i 0 h.lt Oz;have bQ:w.cell? (Ot c.tb (i * 4+1))=some (OB (O9 c.l i).tx):=h.base.tok i 1 h.lt Oz;have ds:w.cell? (Ot c.tb (i * 4+2))=some (Ol (O9 c.l i).n):=h.base.tok i 2 h.lt Oz;have iA:w.cell? (Ot c.tb (i * 4+3))=some (Ol ((O9 c.l i).pl:Int)):=h.base.tok i 3 h.lt Oz;clear h;go_enter func158,ntmps158;go_wp2_with fail
 go_region
 go_wp2_with fail;exact bodyPost_ret (v:=tkV (O9 c.l i)) (by simp[results,results158,go_sem,tkV]) rfl ⟨rfl,PO.drew⟩
def akW {a b:OH}(h:a=b):Ending.returned (OB a)=OQ (OB b):=by rw[h]
def SN (c:Ctx)(w:Ov)(i d:Nat)(h:PW c w i d) :
  OE 221 #[Pj c] w fun e w'=>e=OQ (OB (fx c.l i))/\OD w w':=by
 have eM:=(RX c w i d h);clear h
 cases U:(O9 c.l i).kd==2
 ·
  cases bE:(O9 c.l i).kd==5
  all_goals
   go_enter func221,ntmps221;go_wp2_with fail;refine cm eM ?_;rintro e w1 ⟨rfl,D⟩;have bL:=D;unfold tkV;go_wp2;go_ret;exact⟨akW (by simp[fx,U,bE]),bL.alloc bL.size _⟩
 ·go_enter func221,ntmps221;go_wp2_with fail;refine cm eM ?_;rintro e w1 ⟨rfl,D⟩;have bL:=D;unfold tkV;go_wp2;go_ret;exact⟨akW (by simp[fx,U]),bL.alloc bL.size _⟩
section
variable {α:Type} {c:Ctx} {w w':Ov} {d:Nat} {V:Ov->α->OG->Prop} {r:PR α}
include α c w w' d V r
def Qo {er:Int}{p:Nat}(aa:r=.bad er p)(ax:Ap c.R w.heap.size w w') :
  Qn c w d V r (.panicked (Z9 er p)) w':=by rw[aa];exact⟨rfl,ax⟩
def Ue {x:α}{j:Nat}{v:OG}(aa:r=.ok x j)(av:V w' x v)(hd:PW c w' j d)(ax:Ap c.R w.heap.size w w') :
  Qn c w d V r (OQ v) w':=by rw[aa];exact⟨⟨v,rfl,av⟩,hd,ax⟩
end
def acV (c:Ctx)(er:Int)(t:Tk)(w:Ov) :
  OE 279 #[Pj c,Ol er,tkV t] w fun e w'=>e=.panicked (Z9 er t.pl)/\OD w w':=by
 unfold tkV;go_enter func279,ntmps279;go_wp2_with fail;exact⟨rfl,rfl,PO⟩
def Vq (c:Ctx)(er:Int)(w:Ov)(i d:Nat)(h:PW c w i d) :
  OE 222 #[Pj c,Ol er] w fun e w'=>e=.panicked (Z9 er (O9 c.l i).pl)/\OD w w':=by
 have eM:=(RX c w i d h);go_enter func222,ntmps222;go_wp2_with fail;refine cm eM ?_;rintro e w1 ⟨rfl,D⟩;have hU:=(acV c er (O9 c.l i) w1);go_wp2_with fail;refine cm hU ?_;rintro e w2 ⟨rfl,aF⟩;exact⟨rfl,rfl,D.trans (aF.mono D.size)⟩
def PW.go2 {c:Ctx}{w:Ov}{i d:Nat}(h:PW c w i d)(j:Nat)(aN:j<c.l.length){v:Int}(av:v=(j:Int)):PW c (w.setCell (Ot c.R 1) (Ol v)) j d:=by
 subst av;exact h.go j aN
def Z4 {c:Ctx}{w w1:Ov}(D:OD w w1)(v:OG)(o:Nat):Ap c.R w.heap.size w (w1.setCell (Ot c.R o) v):=
 Ap.setCell (R:=c.R) (Ap.of D) (p:=(Ot c.R o)) (Or.inr rfl) _
section
variable (c:Ctx) (s:OH) (w:Ov) (i d:Nat) (h:PW c w i d)
include c s w i d h
theorem SQ (ac:fx c.l i=s)(az:s≠Ox) :
  OE 223 #[Pj c,OB s] w fun e w'=>e=OQ (OC true)/\PW c w' (i+1) d/\Ap c.R w.heap.size w w':=by
 have eM:=(SN c w i d h);have am:i+1<c.l.length:=TK h.base.ends h.lt ac az;have dr:=h.base.len;subst ac;clear az;go_enter func223,ntmps223;go_wp2_with fail;refine cm eM ?_;rintro e w1 ⟨rfl,D⟩;have bM:=(h.later D);have h1:=bM.c1;have aI:=bM.fz;go_wp2;go_ret;exact⟨rfl,bM.go2 (i+1) am Ou,Z4 D _ _⟩
theorem Uf (ac:fx c.l i≠s) :
  OE 223 #[Pj c,OB s] w fun e w'=>e=OQ (OC false)/\OD w w':=by
 have eM:=(SN c w i d h);have np:=adE ac;clear ac;go_enter func223,ntmps223;go_wp2_with fail;refine cm eM ?_;rintro e w1 ⟨rfl,D⟩;go_wp2;go_ret;exact⟨rfl,D⟩
end
abbrev UV:Ov->Unit->OG->Prop:=fun _ _ v=>v=.tuple #[]
def Pq (c:Ctx)(s:OH)(w:Ov)(i d:Nat)(h:PW c w i d)(az:s≠Ox) :
  OE 225 #[Pj c,OB s] w (Qn c w d UV (Pm c.l s i)):=by
 by_cases ac:fx c.l i=s
 ·have eM:=(SQ c s w i d h ac az);have aS:Pm c.l s i=.ok () (i+1):=by unfold Pm;rw[if_pos ac]
  rw[aS];clear az ac aS;go_enter func225,ntmps225;go_wp2_with fail;refine cm eM ?_;rintro e w1 ⟨rfl,aa,ax⟩;have dj:=aa;go_wp2
  go_end0
  exact Ue rfl rfl dj ax
 ·have eM:=(Uf c s w i d h ac);have aS:Pm c.l s i=.bad 3 (O9 c.l i).pl:=by unfold Pm;rw[if_neg ac];rfl
  rw[aS];have dj:=h;clear az ac aS;go_enter func225,ntmps225;go_wp2_with fail;refine cm eM ?_;rintro e w1 ⟨rfl,D⟩;have hU:=(Vq c 3 w1 i d (dj.later D));go_wp2_with fail;refine cm hU ?_;rintro e w2 ⟨rfl,aF⟩;exact⟨rfl,Qo rfl (Ap.of (D.trans (aF.mono D.size)))⟩
def abt (t:Tk)(W:Ov):(Instr.field 144 (.agg #[Ol t.kd,OB t.tx,Ol t.n,Ol (t.pl:Int)]) 0).run prog W=.ok (Ol t.kd) W:=by kernel_rfl
def ak0 (t:Tk)(W:Ov):(Instr.field 144 (.agg #[Ol t.kd,OB t.tx,Ol t.n,Ol (t.pl:Int)]) 1).run prog W=.ok (OB t.tx) W:=by kernel_rfl
def Zj (c:Ctx)(w:Ov)(i d:Nat)(h:PW c w i d) :
  OE 228 #[Pj c] w fun e w'=>e=OQ (OC (isName c.l i))/\OD w w':=by
 have eM:=(RX c w i d h);go_enter func228,ntmps228;go_wp2_with fail;refine cm eM ?_;rintro e w1 ⟨rfl,D⟩;have fI:=abt (O9 c.l i);unfold tkV;go_wp2;go_ret;exact⟨rfl,D⟩
abbrev SV:Ov->OH->OG->Prop:=fun _ s v=>v=OB s
def name_any (c:Ctx)(w:Ov)(i d:Nat)(h:PW c w i d) :
  OE 220 #[Pj c] w (Qn c w d SV (nameP c.l i)):=by
 have dB:=(Zj c w i d h)
 by_cases ac:(O9 c.l i).kd=1
 ·have aS:nameP c.l i=.ok (O9 c.l i).tx (i+1):=by unfold nameP;rw[if_pos ac]
  have am:i+1<c.l.length:=TL h.base.ends h.lt (by rw[ac];decide)
  have dr:=h.base.len;have E:isName c.l i=true:=by unfold isName;rw[ac];rfl
  rw[aS];rw[E] at dB;have dj:=h;clear h ac aS E;go_enter func220,ntmps220;go_wp2_with fail;refine cm dB ?_;rintro e w1 ⟨rfl,D⟩;have bL:=D;have bM:=(dj.later D);have eM:=(RX c w1 i d bM);go_wp2_with fail;refine cm eM ?_;rintro e w2 ⟨rfl,D⟩;have cq:=(bL.trans (D.mono bL.size));have bj:=(bM.later D);have h1:=bj.c1;have aI:=bj.fz;have fI:=ak0 (O9 c.l i);unfold tkV;go_wp2;go_ret;exact Ue rfl rfl (bj.go2 (i+1) am Ou) (Z4 cq _ _)
 ·have aS:nameP c.l i=.bad 3 (O9 c.l i).pl:=by unfold nameP;rw[if_neg ac];rfl
  have E:isName c.l i=false:=by unfold isName;exact beq_eq_false_iff_ne.2 ac
  rw[aS];rw[E] at dB;have dj:=h;clear h ac aS E;go_enter func220,ntmps220;go_wp2_with fail;refine cm dB ?_;rintro e w1 ⟨rfl,D⟩;have bL:=D;have hU:=(Vq c 3 w1 i d (dj.later D));go_wp2_with fail;refine cm hU ?_;rintro e w2 ⟨rfl,aF⟩;exact⟨rfl,Qo rfl (Ap.of (bL.trans (aF.mono bL.size)))⟩
def PV (kd:Int)(tx:OH)(v:OG)(w:Ov)(av:∃ a n cap,v=.slice a n cap) :
  OE 162 #[Ol kd,OB tx,v] w fun e w'=>e=OQ (Oo w.heap.size)/\w'=w.alloc (Px kd tx 0 v):=by
 obtain⟨a,n,cap,rfl⟩:=av;go_enter func162,ntmps162;go_wp2;go_ret;exact⟨rfl,rfl⟩
def amM (a b:OH):(a==b)=decide (a=b):=by
 by_cases h:a=b
 ·subst h;rw[decide_eq_true rfl]
  cases a with
  | mk a=>
   show (a==a)=true
   exact beq_self_eq_true _
 ·rw[decide_eq_false h]
  cases a with
  | mk a=>cases b with
   | mk b=>
    show (a==b)=false
    rw[beq_eq_false_iff_ne];exact fun e=>h (by rw[e])
def aaF (s:OH):∀ (l:List (OH × OG)) (n i:Nat),
  ∃ o,Instr.findNow .string (OB s) ((l.zipIdx n).map mkE) i=some o/\o.map (·.2)=(l.find? (fun e=>decide (s=e.1))).map (·.2)
 | [],n,i=>⟨none,rfl,rfl⟩
 | e::l,n,i=>by
  simp only[List.zipIdx_cons,List.map_cons,Instr.findNow,mkE,Instr.sameNow,amM,List.find?_cons]
  cases h:decide (s=e.1)
  ·simp only;exact aaF s l (n+1) (i+1)
  ·exact⟨some (i,e.2),rfl,rfl⟩
def Zh (T kD:TypeId)(m k:Nat)(l:List (OH × OG))(s:OH)(bD:OG)(W:Ov)(dY:prog.underlying T=some (.map 9 kD))(aS:W.heap[m]? = some (.map (mapOf l) k))(aI:(zeroValue kD).run prog W=.ok bD W) :
  (Instr.lookup T (.map (some m)) (OB s) true).run prog W=.ok (.tuple #[((l.find? (fun e=>decide (s=e.1))).map (·.2)).getD bD,OC (l.find? (fun e=>decide (s=e.1))).isSome]) W:=by
 obtain⟨o,h1,U⟩:=aaF s l 0 0;have hL:=underlying9;have aw:(Instr.findKey 9 (OB s) (mapOf l).toList).run prog W=.ok o W:=by
  unfold Instr.findKey;rw[Sem.run_bind,run_underlying hL W];simp only[Result.andThen_ok,mapOf];rw[h1];rfl
 unfold Instr.lookup;rw[Sem.run_bind,run_underlying dY W];have ej:∀ b,(Instr.checkKey b 10000 9 (OB s)).run prog W=.ok () W:=by
  intro b;rw[Instr.checkKey,Sem.run_bind,run_underlying hL W];rfl
 have hg:(getObj m).run prog W=.ok (.map (mapOf l) k) W:=by simp[getObj,Sem.run,aS]
 simp only[Result.andThen_ok,Sem.run_bind,hg,Sem.run_pure,ej,aw]
 cases o with
 | none=>
  cases aH:l.find? (fun e=>decide (s=e.1)) with
  | none=>simp[aI]
  | some x=>rw[aH] at U;simp at U
 | some y=>
  cases aH:l.find? (fun e=>decide (s=e.1)) with
  | none=>rw[aH] at U;simp at U
  | some x=>rw[aH] at U;simp at U;simp[U]
def ap6:OG:=.agg #[PN,Ol 0,Ol 0,Ol 0]
def atv (o:Option Sg):OG:=match o with|some s=>sgV s|none=>ap6
def XI (c:Ctx)(s:OH)(W:Ov)(h:W.heap[c.mS]? = some (.map akc 14)) :
  (Instr.lookup 229 (.map (some c.mS)) (OB s) true).run prog W=.ok (.tuple #[atv (Zy s),OC (Zy s).isSome]) W:=by
 rw[Zh 229 275 c.mS 14 _ s ap6 W underlying229 h PK];unfold Zy;rw[List.find?_map];simp only[Function.comp_def]
 cases sgs.find? (fun e=>decide (s=e.tx)) <;> rfl
def aFk (R:Nat)(o:Option Nat):OG:=match o with|some q=>Vh R (avw q)|none=>.nilFunc
def aFl (R:Nat)(o:Option Nat):OG:=match o with|some q=>Vh R (afZ q)|none=>.nilFunc
def ad9 (c:Ctx)(s:OH)(W:Ov)(h:W.heap[c.mT]? = some (.map (af0 c.R) 12)) :
  (Instr.lookup 231 (.map (some c.mT)) (OB s) true).run prog W=.ok (.tuple #[aFk c.R (QG Uj s),OC (QG Uj s).isSome]) W:=by
 rw[Zh 231 281 c.mT 12 _ s .nilFunc W underlying231 h PK];unfold QG;rw[List.find?_map];simp only[Function.comp_def]
 cases Uj.find? (fun e=>decide (s=e.1)) <;> rfl
def ad8 (c:Ctx)(s:OH)(W:Ov)(h:W.heap[c.mV]? = some (.map (akd c.R) 3)) :
  (Instr.lookup 231 (.map (some c.mV)) (OB s) true).run prog W=.ok (.tuple #[aFl c.R (QG SY s),OC (QG SY s).isSome]) W:=by
 rw[Zh 231 281 c.mV 3 _ s .nilFunc W underlying231 h PK];unfold QG;rw[List.find?_map];simp only[Function.comp_def]
 cases SY.find? (fun e=>decide (s=e.1)) <;> rfl
def ayF:VQ.size=16:=by decide +kernel
def aFK (k:Nat)(E:k<8)(W:Ov):(Instr.index 285 (.agg VQ) (Ol (k:Int))).run prog W=.ok (.agg #[OB (hds.getD k (Ox,0)).1,Ol (hds.getD k (Ox,0)).2]) W:=by
 have h:k=0\/k=1\/k=2\/k=3\/k=4\/k=5\/k=6\/k=7:=Ou
 rcases h with rfl|rfl|rfl|rfl|rfl|rfl|rfl|rfl <;> (show _=_;kernel_rfl)
def ayG {s:OH}{j:Nat}(aN:j<8)(h0:∀ q,q<j->s≠(hds.getD q (Ox,0)).1)(h:s=(hds.getD j (Ox,0)).1):Qu s=(hds.getD j (Ox,0)).2:=by
 have key:∀ (l:List (OH × Int)) (j:Nat),j<l.length->(∀ q,q<j->s≠(l.getD q (Ox,0)).1)->s=(l.getD j (Ox,0)).1->(QG l s).getD 0=(l.getD j (Ox,0)).2:=by
  intro l
  induction l with
  | nil=>intro j aN;exact absurd aN O8
  | cons e l bn=>
   intro j aN h0 h;unfold QG;rw[List.find?_cons]
   cases j with
   | zero=>
    simp only[List.getD_cons_zero] at h ⊢;rw[decide_eq_true h];rfl
   | succ j=>
    have:=h0 0 Ou;simp only[List.getD_cons_zero] at this;rw[decide_eq_false this];exact bn j (by simpa using aN) (fun q ag=>by simpa using h0 (q+1) Ou) (by simpa using h)
 exact key hds j (by simpa[hds] using aN) h0 h
def auj {s:OH}(h0:∀ q,q<8->s≠(hds.getD q (Ox,0)).1):Qu s=0:=by
 unfold Qu QG;have:hds.find? (fun e=>decide (s=e.1))=none:=by
  rw[List.find?_eq_none];intro e aq;obtain⟨q,ag,rfl⟩:=List.getElem_of_mem aq;have Jw:q<8:=by simpa[hds] using ag
  have:=h0 q Jw;rw[List.getD_eq_getElem?_getD,List.getElem?_eq_getElem ag] at this;simpa using this
 rw[this];rfl
def afy (s:OH)(w:Ov)(t:TypeId)(fr:Nat × Nat)(hg:w.heap[4]? = some (.cells VQ t fr)) :
  OE 278 #[OB s] w fun e w'=>e=OQ (Ol (Qu s))/\OD w w':=by
 have gZ:=hide hg;obtain⟨cs,fH⟩:=xE VQ;have oT:∀ k:Nat,k<8->∀ W,(Instr.index 285 (.agg cs) (Ol (k:Int))).run prog W=.ok (.agg #[OB (hds.getD k (Ox,0)).1,Ol (hds.getD k (Ox,0)).2]) W:=by rw[fH];exact aFK
 have dd:cs.size=16:=by rw[fH];exact ayF
 rw[<-fH] at gZ;have r1:=hide oT;have sl:=hide dd;clear hg oT fH dd;go_enter func278,ntmps278
 go_wp2_with (refine wpList_load_row rfl 285 _ rfl 4 rfl t cs fr _ gZ.out underlying285 rfl (by rw[sl.out];kernel_rfl) ?_)
 go_loopw [6] (fun i wr=>∃ j:Nat,j<=8/\i=Ol j/\(∀ q,q<j->s≠(hds.getD q (Ox,0)).1)/\OD w wr) (fun i _=>8 - (intOf i).toNat)
 case atStart=>exact⟨0,Nat.zero_le _,rfl,fun q ag=>absurd ag (Nat.not_lt_zero _),QX⟩
 case round=>
  obtain⟨j,aN,rfl,aq,hbel⟩:=hrel;have dH:=hide aq;clear aq
  by_cases aQ:j<8
  ·have ej:=Om r1 j aQ;obtain⟨g,hg⟩:=xE ((hds.getD j (Ox,0)).1);obtain⟨n,Cy⟩:=xH ((hds.getD j (Ox,0)).2);rw[<-hg,<-Cy.out] at ej;have uX:=hide hg;clear hg
   by_cases al:g=s
   ·have D:=avh al;have HP:=hide al;clear al;go_wp2;go_ret;refine⟨abp ?_,hbel.alloc hbel.size _⟩;rw[ayG aQ dH.out (by rw[<-uX.out];exact HP.out.symm),Cy.out]
   ·have D:=adE al;have HP:=hide al;clear al;go_wp2
    go_roundw
    case rel=>exact⟨j+1,by omega,by go_num,fun q ag=>by (by_cases Bg:q=j);(rw[Bg,<-uX.out];exact fun e=>Om HP e.symm);exact Om dH q Ou,hbel.alloc hbel.size _⟩
    case measure=>simp[intOf];omega
  ·go_wp2;go_ret;exact⟨abp (auj (fun q ag=>Om dH q Ou)).symm,hbel⟩
def ZC (c:Ctx)(w:Ov)(i d:Nat)(h:PW c w i d)(E:(O9 c.l i).kd≠6) :
  OE 219 #[Pj c] w fun e w'=>e=OQ (Ol (Qu (O9 c.l i).tx))/\PW c w' (i+1) d/\Ap c.R w.heap.size w w':=by
 have eM:=(RX c w i d h);have am:i+1<c.l.length:=TL h.base.ends h.lt E;have dr:=h.base.len;clear E;go_enter func219,ntmps219;go_wp2_with fail;refine cm eM ?_;rintro e w1 ⟨rfl,D⟩;have bL:=D;have bM:=(h.later D);obtain⟨t,fr,aL⟩:=bM.base.heads;have f5:=(afy (O9 c.l i).tx w1 t fr aL);have fI:=ak0 (O9 c.l i);clear aL;unfold tkV;go_wp2_with fail;refine cm f5 ?_;rintro e w2 ⟨rfl,D⟩;have cq:=(bL.trans (D.mono bL.size));have bj:=(bM.later D);have h1:=bj.c1;have aI:=bj.fz;go_wp2;go_ret
 exact⟨rfl,bj.go2 (i+1) am Ou,Z4 cq _ _⟩
def Does (c:Ctx)(f:Nat)(V:Nat->Ov->Tr->OG->Prop)(ns:Nat->Nat->PR Tr):Prop:=
 ∀ w d i r,ns d i=r->r≠.out->PW c w i d->OE f #[Pj c] w (Qn c w d (V w.heap.size) r)
def RN (R f:Nat)(W:Ov):(Instr.makeFunc (.func f) #[OM R 0] #[]).run prog W=.ok (Vh R f) W:=rfl
def PW.avk {c:Ctx}{w:Ov}{i d:Nat}(h:PW c w i d)(e:Nat)(aq:e<=30){v:Int}(av:v=(e:Int)):PW c (w.setCell (Ot c.R 2) (Ol v)) i e:=by
 subst av;exact h.aGc e aq
def Zl (c:Ctx)(f:Nat)(ns:Nat->Nat->PR Tr)(aH:Does c f NV ns)(jv:VR f)
  (w:Ov) (d i:Nat) (r:PR Tr) (aa:PD c.l ns d i=r) (aR:r≠.out) (h:PW c w i d):OE 159 #[Pj c,Vh c.R f] w (Qn c w d (NV w.heap.size) r):=by
 have U:=h.c2;have aI:=h.fz;have hd:=h.deep
 by_cases Ae:d=30
 ·have hU:=(Vq c 4 w i d h);subst Ae;unfold PD at aa;rw[if_pos rfl] at aa;have a':=hide aa;clear aa aR jv hd;go_enter func159,ntmps159;go_wp2_with fail;refine cm hU ?_;rintro e w1 ⟨rfl,D⟩;exact⟨rfl,Qo a'.out.symm (Ap.of D)⟩
 ·unfold PD at aa;rw[if_neg Ae] at aa;have Mb:((d:Int)==30)=false:=beq_eq_false_iff_ne.2 Ou;have ai:Hid _:=aH (w.setCell (Ot c.R 2) (Ol ((d:Int)+1))) (d+1) i r aa aR (h.avk (d+1) Ou Ou);have dw:=hide aR;clear aa aR;unfold Vh;go_enter func159,ntmps159;go_wp2_with fail;refine cm ai.out ?_;intro e w1 al
  cases r with
  | out=>exact absurd rfl dw.out
  | bad er p=>
   obtain⟨rfl,ax⟩:=al;refine⟨rfl,Qo rfl ?_⟩;exact(Z4 (c:=c) (Below.refl _ w) _ 2).trans (by simpa using ax)
  | ok x j=>
   obtain⟨⟨v,rfl,av⟩,ba,ax⟩:=al;have p0:=((Z4 (c:=c) (Below.refl _ w) (Ol ((d:Int)+1)) 2).trans (by simpa using ax));have ef:=ba.c2;have L4:=ba.fz;clear aI U;go_wp2;go_ret;have ee:=fun v=>p0.trans (Ap.setCell (R:=c.R) (B:=w.heap.size) (Ap.refl _ _ _) (p:=(Ot c.R 2)) (Or.inr rfl) v);have aQ:=h.rlt;refine Ue rfl ?_ (ba.avk d hd Ou) (ee _);exact NV.later (R:=c.R) (by simpa using av) (Ap.setCell (R:=c.R) (Ap.refl _ _ _) (p:=(Ot c.R 2)) (Or.inr rfl) _) aQ
def Xf {w:Ov}{B:Nat}{u:OG}{ps:List Nat}(h:w.ownsRow B 22 1 u ps.length (ps.map Oo))(cl:0<ps.length) :
  ∃ g cap,u=.slice (some (Ot g 0)) ps.length cap/\∀ j,(aN:j<ps.length)->w.cell? (Ot g j)=some (Oo ps[j]):=by
 rcases h.2 with az|⟨g,cap,cj,av,D,hg,h1,U,aw,aL⟩
 ·omega
 ·refine⟨g,cap,av,fun j aN=>?_⟩;rw[cell_of hg,<-Array.getElem?_toList];have:(cj.toList.take (ps.length * 1))[j]? =(ps.map Oo)[j]?:=by rw[aL]
  rw[List.getElem?_take_of_lt Ou] at this;rw[this,List.getElem?_map,List.getElem?_eq_getElem aN];rfl
def U3 {w:Ov}{B:Nat}{u:OG}{n:Nat}{xs:List OG}(h:w.ownsRow B 22 1 u n xs):∃ a cap,u=.slice a n cap:=by
 rcases h.2 with az|⟨g,cap,cj,av,_⟩
 ·exact⟨none,0,by rw[az.1,az.2]⟩
 ·exact⟨_,cap,av⟩
def XL {t:Tr}(h:∀ bQ r ds bU,t.kids=bQ::r->bQ.kids=ds::bU->bQ.kd=15->ds.kd=18->ds.tx≠alp):Tv t=t:=by
 unfold Tv
 split
 ·rename_i kd tx n bQ nu bR ds t2 c7 o' bU r
  rw[if_neg];rintro⟨a,b,e⟩;exact h _ _ _ _ rfl rfl a b e
 ·rfl
def afz {t bQ ds:Tr}{r bU:List Tr}(h1:t.kids=bQ::r)(U:bQ.kids=ds::bU)(aw:bQ.kd=15)(aL:ds.kd=18)(bE:ds.tx=alp):Tv t=.mk t.kd VT t.n t.kids:=by
 cases t with
 | mk kd tx n ks=>
  simp only[Tr.kids] at h1;subst h1
  cases bQ with
  | mk a b c a6=>
   simp only[Tr.kids] at U;subst U
   cases ds with
   | mk a2 b2 c2 hz=>
    simp only[Tr.kd,Tr.tx] at aw aL bE;simp only[Tv,Tr.kd,Tr.n,Tr.kids];rw[if_pos ⟨aw,aL,bE⟩]
def EV.text {B:Nat}{w:Ov}{t:Tr}{p:Nat}(h:EV B w t (Oo p))(s:OH):EV B (w.setCell (Ot p 1) (OB s)) (.mk t.kd s t.n t.kids) (Oo p):=by
 obtain⟨cz,u,ps,aq,al,D,aa,aT,E⟩:=h;have:cz=p:=by simpa[Oo] using aq.symm
 subst this;have ac:∀ b,b≠cz->(w.setCell (Ot cz 1) (OB s)).heap[b]? = w.heap[b]?:=fun b D=>Below.heap_setCell w (Ot cz 1) _ b D;refine⟨cz,u,ps,rfl,al,by rw[heap_set D];rfl,?_,aT,OL.later (fun b h _=>ac b h.2.1) _ _ E⟩
 exact RF (I:=fun b=>b≠cz) (fun b h _=>ac b h) (fun g hg e=>aT (by rw[hg,e])) aa
def node_cells {w:Ov}{p:Nat}{kd n:Int}{tx:OH}{u:OG}(h:w.heap[p]? = some (Px kd tx n u)) :
  w.cell? (Ot p 0)=some (Ol kd)/\w.cell? (Ot p 1)=some (OB tx)/\w.cell? (Ot p 2)=some (Ol n)/\w.cell? (Ot p 3)=some u/\(∀ o,w.frozen? (Ot p o)=false):=
 ⟨by rw[cell_of h];rfl,by rw[cell_of h];rfl,by rw[cell_of h];rfl,by rw[cell_of h];rfl,Sv h⟩
section
variable {I:Nat->Prop} {w:Ov} {t:Tr}
include I w t
def Qb.opens {p:Nat}(h:Qb I w t p):∃ u ps,w.heap[p]? = some (Px t.kd t.tx t.n u)/\w.ownsRow 0 22 1 u ps.length (ps.map Oo)/\OL I w t.kids ps:=by
 cases t with
 | mk kd tx n ks=>
  rw[Qb] at h;obtain⟨_,u,ps,h1,U,aw⟩:=h;exact⟨u,ps,h1,U.1,OL.mono (fun b D _=>D.1) _ _ aw⟩
def OL.head {ao:List Tr}{ps:List Nat}(h:OL I w (t::ao) ps):∃ p eQ,ps=p::eQ/\Qb I w t p:=by
 obtain⟨p,eQ,e,h1,_⟩:=h.parts;exact⟨p,eQ,e,h1⟩
end
def aqD (t:Tr):Prop:=∀ bQ r,t.kids=bQ::r->bQ.kd=15->∃ ds bU,bQ.kids=ds::bU
def Yf (B:Nat)(t:Tr)(v:OG)(w:Ov)(h:EV B w t v)(aq:aqD t) :
  OE 161 #[v] w fun e w'=>e=OQ v/\EV B w' (Tv t) v/\Below B w w':=by
 have dH:=h;obtain⟨p,u,ps,rfl,al,D,aa,aT,E⟩:=h;obtain⟨_,_,_,fU,fz⟩:=node_cells D;have HP:=hide al;have hlen:=OL.length _ _ E
 cases eT:t.kids with
 | nil=>
  rw[eT] at hlen;have h0:ps.length=0:=hlen;obtain⟨a,cap,jR⟩:=U3 aa;rw[h0] at jR;subst jR;have ai:=hide (XL (t:=t) (fun bQ r ds bU e=>by rw[eT] at e;cases e))
  clear D aT hlen eT h0 al fz;exact atu
 | cons bQ r=>
  rw[eT] at hlen E;have h0:0<ps.length:=by rw[hlen];simp
  obtain⟨g,cap,jR,hcell⟩:=Xf aa h0;subst jR;obtain⟨p1,NZ,ww,gL⟩:=OL.head E;have c0:w.cell? (Ot g 0)=some (Oo p1):=by
   rw[hcell 0 h0];simp[ww]
  obtain⟨gW,dO,b6,hr1,iO⟩:=gL.opens;obtain⟨tP,_,_,Dd,_⟩:=node_cells b6;have L6:(0:Int)<(ps.length:Int):=Ou
  by_cases jf:bQ.kd=15
  ·obtain⟨ds,bU,eO⟩:=aq bQ r eT jf;rw[eO] at iO;have hlen1:=OL.length _ _ iO;have Dh:0<dO.length:=by rw[hlen1];simp
   obtain⟨b5,cap1,JQ,hcell1⟩:=Xf hr1 Dh;subst JQ;obtain⟨cK,N0,yh,kr⟩:=OL.head iO;have gH:w.cell? (Ot b5 0)=some (Oo cK):=by
    rw[hcell1 0 Dh];simp[yh]
   obtain⟨gC,N2,aF,_,_⟩:=kr.opens;obtain⟨LW,LX,_,_,_⟩:=node_cells aF;have L5:(0:Int)<(dO.length:Int):=Ou;have HB:(bQ.kd==15)=true:=beq_iff_eq.2 jf
   by_cases qi:ds.kd=18
   ·have HC:(ds.kd==18)=true:=beq_iff_eq.2 qi
    by_cases jR:ds.tx=alp
    ·have ai:=hide (afz eT eO jf qi jR);have HK:(ds.tx.toList==[117,115,101,32,115,116,114,105,99,116])=true:=V8 (b:=alp) rfl jR;clear D aT hlen eT al b6 aF hcell hcell1 hlen1 eO jf qi jR ww yh;go_enter func161,ntmps161;go_wp2;go_ret;exact⟨rfl,by rw[ai.out];exact dH.text _,QX.setCell (p:=(Ot p 1)) HP.out _⟩
    ·have ai:=hide (XL (t:=t) (fun j2 hE a2 Fc ay bz _ _ e=>by rw[eT] at ay;cases ay;rw[eO] at bz;cases bz;exact jR e))
     have HK:(ds.tx.toList==[117,115,101,32,115,116,114,105,99,116])=false:=VJ (b:=alp) rfl jR;clear D aT hlen eT al b6 aF hcell hcell1 hlen1 eO jf qi jR ww yh;exact atu
   ·have HC:(ds.kd==18)=false:=beq_eq_false_iff_ne.2 qi;have ai:=hide (XL (t:=t) (fun j2 hE a2 Fc ay bz _ e=>by rw[eT] at ay;cases ay;rw[eO] at bz;cases bz;exact absurd e qi))
    clear D aT hlen eT al b6 aF hcell hcell1 hlen1 eO jf qi ww yh;exact atu
  ·have HB:(bQ.kd==15)=false:=beq_eq_false_iff_ne.2 jf;have ai:=hide (XL (t:=t) (fun j2 hE a2 Fc ay _ e=>by rw[eT] at ay;cases ay;exact absurd e jf))
   clear D aT hlen eT al b6 hcell jf ww;exact atu
section
variable {c:Ctx} {w:Ov} {i d:Nat} (h:PW c w i d)
include c w i d h
theorem PW.drew:PW c w.drew i d:=h.later QX.drew
theorem PW.alloc (o:Obj):PW c (w.alloc o) i d:=h.later PO
end
abbrev TT:Obj:=.cells #[PN,Ol 0,Ol 0,Ol 0] 275
def aat {w:Ov}{b:Nat}{a0 j2 a2 a3:OG}{t:TypeId}{fr:Nat × Nat}(h:w.heap[b]? = some (.cells #[a0,j2,a2,a3] t fr))(v0 v1 v2 v3:OG) :
  ((((w.setCell (Ot b 0) v0).setCell (Ot b 1) v1).setCell (Ot b 2) v2).setCell (Ot b 3) v3).heap[b]? = some (.cells #[v0,v1,v2,v3] t fr):=by
 rw[heap_set (heap_set (heap_set (heap_set h v0) v1) v2) v3];rfl
def ajP (b:Nat)(w1:Ov)(v0 v1 v2 v3:OG):Prop:=
 w1.cell? (Ot b 0)=some v0/\w1.cell? (Ot b 1)=some v1/\w1.cell? (Ot b 2)=some v2/\w1.cell? (Ot b 3)=some v3/\(∀ o,w1.frozen? (Ot b o)=false)/\b<w1.heap.size
def c160 {b:Nat}{w1:Ov}{v0 v1 v2 v3:OG}(aZ:w1.heap[b]? = some (.cells #[v0,v1,v2,v3] 275)):ajP b w1 v0 v1 v2 v3:=
 ⟨by rw[cell_of aZ];rfl,by rw[cell_of aZ];rfl,by rw[cell_of aZ];rfl,by rw[cell_of aZ];rfl,Sv aZ,lt_of_heap aZ⟩
section
variable {c:Ctx} {w w1:Ov} {i d:Nat} (h:PW c w i d)
include c w w1 i d h
theorem ayd (D:Below (w.alloc TT).drew.heap.size (w.alloc TT).drew w1) :
  PW c w1 i d/\OD w w1/\w1.heap[w.heap.size]? = some TT:=
 ⟨(h.alloc TT).drew.later D,((QX.alloc O6 TT).drew).trans (D.mono O8),(D.block _ O8).trans (OA w TT)⟩
theorem ax6 (D:Below ((w.alloc TT).alloc TT).drew.heap.size ((w.alloc TT).alloc TT).drew w1) :
  PW c w1 i d/\OD w w1/\w1.heap[w.heap.size]? = some TT/\w1.heap[w.heap.size+1]? = some TT:=by
 refine⟨((h.alloc TT).alloc TT).drew.later D,(((QX.alloc O6 TT).alloc O8 TT).drew).trans (D.mono Rh),(D.block _ Rh).trans ((Below.heap_alloc (w.alloc TT) TT w.heap.size O8).trans (OA w TT)),?_⟩;have:=OA (w.alloc TT) TT;simp only[World.size_alloc] at this;exact(D.block _ O8).trans this
end
section
variable {c:Ctx} {w w1 gG:Ov} {i d:Nat} {v0 v1 v2 v3:OG} (h:PW c w1 i d)
include c w w1 gG i d v0 v1 v2 v3 h
theorem ajU (n0:c.lo<=w.heap.size)(aZ:w1.heap[w.heap.size]? = some TT)(p1:w1.heap[w.heap.size+1]? = some TT)(D:OD w w1)(a1:gG=(((w1.setCell (Ot (w.heap.size+1) 0) v0).setCell (Ot (w.heap.size+1) 1) v1).setCell (Ot (w.heap.size+1) 2) v2).setCell (Ot (w.heap.size+1) 3) v3) :
  PW c gG i d/\OD w gG/\ajP w.heap.size gG (PN) (Ol 0) (Ol 0) (Ol 0)/\ajP (w.heap.size+1) gG v0 v1 v2 v3:=by
 have a8:Below (w.heap.size+1) w1 gG:=by
  rw[a1];exact((((Below.refl _ w1).setCell (p:=(Ot (w.heap.size+1) 0)) O6 v0).setCell (p:=(Ot (w.heap.size+1) 1)) O6 v1).setCell (p:=(Ot (w.heap.size+1) 2)) O6 v2).setCell (p:=(Ot (w.heap.size+1) 3)) O6 v3
 refine⟨h.ap a8 Ou,D.trans (a8.mono Ou),c160 ((a8.block _ Ou).trans aZ),c160 ?_⟩;rw[a1];exact aat p1 v0 v1 v2 v3
theorem ajV (aZ:w1.heap[w.heap.size]? = some TT)(D:OD w w1)(a1:gG=w1.alloc (.cells #[v0,v1,v2,v3] 275)) :
  PW c gG i d/\OD w gG/\ajP w.heap.size gG (PN) (Ol 0) (Ol 0) (Ol 0)/\ajP w1.heap.size gG v0 v1 v2 v3:=by
 subst a1;exact⟨h.alloc _,D.alloc D.size _,c160 ((Below.heap_alloc _ _ _ (lt_of_heap aZ)).trans aZ),c160 (OA _ _)⟩
end
def ap5 {w gG:Ov}{b:Nat}(D:OD w gG)(h:w.heap.size<=b)(v0 v1 v2 v3:OG) :
  OD w ((((gG.setCell (Ot b 0) v0).setCell (Ot b 1) v1).setCell (Ot b 2) v2).setCell (Ot b 3) v3):=
 (((D.setCell (p:=(Ot b 0)) h _).setCell (p:=(Ot b 1)) h _).setCell (p:=(Ot b 2)) h _).setCell (p:=(Ot b 3)) h _
def am2 (c:Ctx)(k:Int)(s:OH)(w:Ov)(i d:Nat)(h:PW c w i d)(ac:s=fx c.l i)(aR:Zy s=none) :
  OE 312 #[Pj c,Ol k] w fun e w'=>e=OQ (.tuple #[ap6,OC false])/\OD w w':=by
 have bB:=h;have dj:=((h.alloc TT).drew);have r9:=(((h.alloc TT).alloc TT).drew);have dU:Hid (∀ W:Ov,PW c W i d->(Instr.lookup 229 (.map (some c.mS)) (OB s) true).run prog W=.ok (.tuple #[.agg #[PN,Ol 0,Ol 0,Ol 0],OC false]) W):=fun W a1=>by
  have:=XI c s W a1.base.signs;rw[aR] at this;exact this
 have bN:=Oq (∀{G}(h:G:=by
 have z:=Oq (∀{G}(h:G:=by
 have z:=Oq (∀{G}(h:G:=by
 refine wpAnyH_ready (rs:=[5,10]) PK O8 (AllReadyH.cons rfl (fun K A=>?_) (AllReadyH.cons rfl (fun K A=>?_) AllReadyH.nil))
 ·have z:=Oq (∀{G}(h:G:=by
  have z:=Oq (∀{G}(h:G:=by
  have z:=Oq (∀{G}(h:G:=by
  have z:=Oq (∀{G}(h:G:=by
  obtain⟨gG,iK⟩:=xE (w1.alloc (.cells #[PN,Ol 0,Ol 0,Ol 0] 275));obtain⟨hr2,aF,⟨cG,b4,bT,eg,w8,w9⟩,⟨jz,kz,s2,pe,s6,s7⟩⟩:=ajV (v0:=PN) (v1:=Ol 0) (v2:=Ol 0) (v3:=Ol 0) bM sn.out fB iK;exact aFe),G);exact aqa),G);exact atE),G);exact aEM),G);exact ayc
 ·have z:=Oq (∀{G}(h:G:=by
  have z:=Oq (∀{G}(h:G:=by
  have z:=Oq (∀{G}(h:G:=by
  refine XY 11 fun K A=>?_;go_simp;clear cH bU cg eE eu rlt;obtain⟨gG,iK⟩:=xE ((((w1.setCell (Ot (w.heap.size+1) 0) (PN)).setCell (Ot (w.heap.size+1) 1) (Ol 0)).setCell (Ot (w.heap.size+1) 2) (Ol 0)).setCell (Ot (w.heap.size+1) 3) (Ol 0));obtain⟨hr2,aF,⟨cG,b4,bT,eg,w8,w9⟩,⟨jz,kz,s2,pe,s6,s7⟩⟩:=ajU (v0:=PN) (v1:=Ol 0) (v2:=Ol 0) (v3:=Ol 0) bM bB.base.size sn.out tI.out fB iK;exact aFe),G);exact atE),G);exact aEM),G);exact ax5),G);exact ax8),G);exact abe),G);exact aD9
section
variable (c:Ctx) (k:Int) (s:OH) (x:Sg) (w:Ov) (i d:Nat) (h:PW c w i d) (ac:s=fx c.l i) (aR:Zy s=some x)
include c k s x w i d h ac aR
theorem ajW (E:(x.parts==k)=false) :
  OE 312 #[Pj c,Ol k] w fun e w'=>e=OQ (.tuple #[ap6,OC false])/\OD w w':=by
 have z:=Oq (∀{G}(h:G:=by
 have z:=Oq (∀{G}(h:G:=by
 have z:=Oq (∀{G}(h:G:=by
 refine wpAnyH_ready (rs:=[5,10]) PK O8 (AllReadyH.cons rfl (fun K A=>?_) (AllReadyH.cons rfl (fun K A=>?_) AllReadyH.nil))
 ·have z:=Oq (∀{G}(h:G:=by
  have z:=Oq (∀{G}(h:G:=by
  have z:=Oq (∀{G}(h:G:=by
  obtain⟨gG,iK⟩:=xE (w1.alloc (.cells #[OB x.tx,Ol x.kd,Ol x.parts,Ol x.str] 275));obtain⟨hr2,aF,⟨cG,b4,bT,eg,w8,w9⟩,⟨jz,kz,s2,pe,s6,s7⟩⟩:=ajV (v0:=OB x.tx) (v1:=Ol x.kd) (v2:=Ol x.parts) (v3:=Ol x.str) bM sn.out fB iK;exact aFf),G);exact aqa),G);exact atw),G);exact ayc
 ·have z:=Oq (∀{G}(h:G:=by
  have z:=Oq (∀{G}(h:G:=by
  have z:=Oq (∀{G}(h:G:=by
  obtain⟨hr2,aF,⟨cG,b4,bT,eg,w8,w9⟩,⟨jz,kz,s2,pe,s6,s7⟩⟩:=ajU (v0:=OB x.tx) (v1:=Ol x.kd) (v2:=Ol x.parts) (v3:=Ol x.str) bM bB.base.size sn.out tI.out fB iK;exact aFf),G);exact aEy),G);exact atw),G);exact ax5),G);exact ax8),G);exact abe),G);exact aEq
theorem am3 (E:(x.parts==k)=true) :
  OE 312 #[Pj c,Ol k] w fun e w'=>e=OQ (.tuple #[sgV x,OC true])/\OD w w':=by
 have z:=Oq (∀{G}(h:G:=by
 have z:=Oq (∀{G}(h:G:=by
 have z:=Oq (∀{G}(h:G:=by
 refine wpAnyH_ready (rs:=[5,10]) PK O8 (AllReadyH.cons rfl (fun K A=>?_) (AllReadyH.cons rfl (fun K A=>?_) AllReadyH.nil))
 ·have z:=Oq (∀{G}(h:G:=by
  have z:=Oq (∀{G}(h:G:=by
  have z:=Oq (∀{G}(h:G:=by
  obtain⟨gG,iK⟩:=xE (w1.alloc (.cells #[OB x.tx,Ol x.kd,Ol x.parts,Ol x.str] 275));obtain⟨hr2,aF,⟨cG,b4,bT,eg,w8,w9⟩,⟨jz,kz,s2,pe,s6,s7⟩⟩:=ajV (v0:=OB x.tx) (v1:=Ol x.kd) (v2:=Ol x.parts) (v3:=Ol x.str) bM sn.out fB iK;exact aDS),G);exact aqa),G);exact atw),G);exact ayc
 ·have z:=Oq (∀{G}(h:G:=by
  have z:=Oq (∀{G}(h:G:=by
  have z:=Oq (∀{G}(h:G:=by
  obtain⟨hr2,aF,⟨cG,b4,bT,eg,w8,w9⟩,⟨jz,kz,s2,pe,s6,s7⟩⟩:=ajU (v0:=OB x.tx) (v1:=Ol x.kd) (v2:=Ol x.parts) (v3:=Ol x.str) bM bB.base.size sn.out tI.out fB iK;exact aDS),G);exact aEy),G);exact atw),G);exact ax5),G);exact ax8),G);exact abe),G);exact aEq
end
def Wy (c:Ctx)(k:Int)(w:Ov)(i d:Nat)(h:PW c w i d) :
  OE 312 #[Pj c,Ol k] w fun e w'=>e=OQ (.tuple #[atv (Zn k (fx c.l i)),OC (Zn k (fx c.l i)).isSome])/\OD w w':=by
 cases aR:Zy (fx c.l i) with
 | none=>
  have:Zn k (fx c.l i)=none:=by simp[Zn,aR]
  rw[this];exact am2 c k _ w i d h rfl aR
 | some x=>
  cases E:x.parts==k with
  | false=>
   have:Zn k (fx c.l i)=none:=by simp[Zn,aR,Option.filter,E]
   rw[this];exact ajW c k _ x w i d h rfl aR E
  | true=>
   have:Zn k (fx c.l i)=some x:=by simp[Zn,aR,Option.filter,E]
   rw[this];exact am3 c k _ x w i d h rfl aR E
structure FC (c:Ctx)(F:SX):Prop where
 st:Does c 160 NV F.st
 vl:Does c 224 NV F.vl
 pr:∀ b:Int,2<=b->b<=8->∀ w d i r,F.pr b d i=r->r≠.out->PW c w i d->OE 280 #[Pj c,Ol b] w (Qn c w d (NV w.heap.size) r)
 sg:Does c 311 NV F.sg
def aFL:VR 160:=fun _ _=>by kernel_rfl
def aFM:VR 224:=fun _ _=>by kernel_rfl
def aFN:VR 311:=fun _ _=>by kernel_rfl
section
variable {c:Ctx} {F:SX} (ah:FC c F) (w:Ov) (d i:Nat) (h:PW c w i d)
include c F ah w d i h
theorem VG (aR:PD c.l F.vl d i≠.out):OE 159 #[Pj c,Vh c.R 224] w (Qn c w d (NV w.heap.size) (PD c.l F.vl d i)):=
 Zl c 224 F.vl ah.vl aFM w d i _ rfl aR h
theorem aaT (aR:PD c.l F.st d i≠.out):OE 159 #[Pj c,Vh c.R 160] w (Qn c w d (NV w.heap.size) (PD c.l F.st d i)):=
 Zl c 160 F.st ah.st aFL w d i _ rfl aR h
theorem aER (aR:PD c.l F.sg d i≠.out):OE 159 #[Pj c,Vh c.R 311] w (Qn c w d (NV w.heap.size) (PD c.l F.sg d i)):=
 Zl c 311 F.sg ah.sg aFN w d i _ rfl aR h
end
def bind_ok {α β:Type}(x:α)(i:Nat)(f:α->Nat->PR β):(PR.ok x i).bind f=f x i:=rfl
def PG {α β:Type}(er:Int)(p:Nat)(f:α->Nat->PR β):(PR.bad er p:PR α).bind f=.bad er p:=rfl
def acM {α β:Type}(f:α->Nat->PR β):(PR.out:PR α).bind f=.out:=rfl
abbrev From (B:Nat):Nat->Prop:=fun b=>B<=b
def SS {c:Ctx}{B:Nat}{w w':Ov}{t:Tr}{p:Nat}(h:Qb (From B) w t p)(ax:Ap c.R w.heap.size w w')(a8:c.R<B):Qb (From B) w' t p:=
 Qb.later (Vg.XO ax a8 fun _ h=>h) _ _ h
def TB {B B':Nat}{w:Ov}{t:Tr}{p:Nat}(h:Qb (From B) w t p)(a8:B'<=B):Qb (From B') w t p:=Qb.mono (fun _ h _=>Nat.le_trans a8 h) _ _ h
def aaC {c:Ctx}{B:Nat}{w w':Ov}{t u:Tr}{p q:Nat}(h:Qb (From B) w t p)(ax:Ap c.R w.heap.size w w')(cE:c.R<B)(a8:B<=w.heap.size)(U:Qb (From w.heap.size) w' u q):OL (From B) w' [t,u] [p,q]:=
 OL.pair (M:=w.heap.size) (Qb.later (I:=fun b=>From B b/\b<w.heap.size) (Vg.XO ax cE fun _ h=>h.1) _ _ (Qb.mono (fun _ D hl=>⟨D,hl⟩) _ _ h)) (Qb.mono (fun _ D _=>⟨Nat.le_trans a8 D,D⟩) _ _ U)
section
variable {c:Ctx} {w W:Ov} {j d:Nat} {ao:List Tr}
include c w W j d ao
def made {ps:List Nat}(cE:PW c W j d)(aO:Ap c.R w.heap.size w W)(az:OL (From w.heap.size) W ao ps)(hl:ps.length<=maxLen)(cs:Array OG)(aj:cs.toList=ps.map Oo)(n:Nat)(hlen:ps.length=n)(kd:Int)(tx:OH)(q:Nat)(ag:q=W.heap.size+1) :
  EV w.heap.size ((W.alloc (.cells cs 22)).alloc (Px kd tx 0 (.slice (some (Ot W.heap.size 0)) n n))) (.mk kd tx 0 ao) (Oo q) /\
  PW c ((W.alloc (.cells cs 22)).alloc (Px kd tx 0 (.slice (some (Ot W.heap.size 0)) n n))) j d /\
  Ap c.R w.heap.size w ((W.alloc (.cells cs 22)).alloc (Px kd tx 0 (.slice (some (Ot W.heap.size 0)) n n))):=by
 subst hlen;have ac:q=(W.alloc (.cells cs 22)).heap.size:=by rw[ag];simp
 rw[ac];exact⟨EV.new (KV.row az aO.size hl cs aj) (by simp;have:=aO.size;omega) kd tx 0,(cE.alloc _).alloc _,(aO.alloc aO.size _).alloc (by simp;have:=aO.size;omega) _⟩
def aaS {v:OG}(cE:PW c W j d)(aO:Ap c.R w.heap.size w W)(az:KV w.heap.size W ao v)(kd:Int)(tx:OH)(q:Nat)(ag:q=W.heap.size) :
  EV w.heap.size (W.alloc (Px kd tx 0 v)) (.mk kd tx 0 ao) (Oo q)/\PW c (W.alloc (Px kd tx 0 v)) j d/\Ap c.R w.heap.size w (W.alloc (Px kd tx 0 v)):=by
 subst ag;exact⟨EV.new az aO.size kd tx 0,cE.alloc _,aO.alloc aO.size _⟩
end
def aaJ {c:Ctx}{F:SX}(ah:FC c F):Does c 155 NV (SC c.l F):=by
 have z:=Oq (∀{G}(h:G:=by
 have bS:=hide h.rlt;unfold SC at ac;have a':=hide ac;have dw:=hide aR;clear ac aR;go_enter func155,ntmps155
 cases aa:Pm c.l Rk i with
 | out=>
  exact RS
 | bad er p=>
  have ai:=(Pq c Rk w i d h Oz);exact abd
 | ok cp bK=>
  have ai:=(Pq c Rk w i d h Oz);have z:=Oq (∀{G}(h:G:=by
  have z:=Oq (∀{G}(h:G:=by
  have bM:=ba;clear h
  cases aa:PD c.l F.vl d bK with
  | out=>
   exact RS
  | bad er p=>
   have ai:=(VG ah w1 d bK bM (by rw[aa];nofun))
   exact ap4
  | ok dG b'=>
   have ai:=(VG ah w1 d bK bM (by rw[aa];nofun))
   have z:=Oq (∀{G}(h:G:=by
   intro e w2 al;obtain⟨⟨v2,rfl,cK,rfl,kr⟩,ba,ax⟩:=al;have ee:=(ew.next ax);have bj:=ba;have jc:=(TB kr ew.size)
   cases aa:Pm c.l SA b' with
   | out=>
    exact RS
   | bad er p=>
    have ai:=(Pq c SA w2 b' d bj Oz);exact ap3
   | ok jk gr=>
    have ai:=(Pq c SA w2 b' d bj Oz);have z:=Oq (∀{G}(h:G:=by
    intro e ap al;obtain⟨⟨v3,rfl,rfl⟩,ba,ax⟩:=al;have jm:=(ee.next ax);replace jc:=(SS jc ax bS.out);go_wp2;go_ret;exact Ue a'.out.symm ⟨cK,rfl,jc⟩ ba jm),G);exact XZ),G);exact XZ),G);exact aht),G);exact XZ),G);exact atH
def info22:(prog.info? 22).map (fun i=>(i.zero,i.size,i.bytes))=some (some Ri,1,8):=by kernel_rfl
section
variable {B:Nat} {w:Ov} {ao:List Tr} {v:OG} (h:KV B w ao v)
include B w ao v h
theorem KV.shape:∃ a cap,v=.slice a ao.length cap:=by
 obtain⟨ps,aa,E⟩:=h;rw[<-OL.length _ _ E];exact U3 aa
theorem KV.own (g:Nat)(hg:v.ownBlock=some g):g<w.heap.size/\B<=g:=by
 obtain⟨ps,aa,_⟩:=h;exact Qj aa g hg
end
def KV.mono {B B':Nat}{w:Ov}{ao:List Tr}{v:OG}(h:KV B w ao v)(a8:B'<=B):KV B' w ao v:=by
 obtain⟨ps,aa,E⟩:=h;refine⟨ps,⟨aa.1,?_⟩,OL.mono (fun b h _=>⟨by omega,h.2⟩) _ _ E⟩;exact azk
def akO {B:Nat}{w1 ap:Ov}{ao fE:List Tr}{v:OG}{ps dO:List Nat}{g cap n:Nat}{o:Obj}(E:OL (fun b=>B<=b/\v.ownBlock≠some b) w1 (ao++fE) (ps++dO))
  (hown:ap.ownsRow B 22 1 (.slice (some (Ot g 0)) n cap) n ((ps++dO).map Oo)) (az:n=(ps++dO).length) (dg:(w1.alloc o).grownBy ap v.ownBlock)
  (hg:v.ownBlock=some g\/g=w1.heap.size+1):KV B ap (ao++fE) (.slice (some (Ot g 0)) n cap):=by
 subst az;refine⟨ps++dO,hown,?_⟩;have ac:Vg (fun b=>B<=b/\b≠g/\v.ownBlock≠some b) w1 ap:=by
  intro b D hl;have h1:OD w1 (w1.alloc o):=PO;rw[<-h1.block b hl];exact dg.block b Rh (fun e=>D.2.2 e.symm)
 have h0:=OL.mono (J:=fun b=>B<=b/\b≠g/\v.ownBlock≠some b) (fun b D hl=>⟨D.1,fun e=>by (rcases hg with hg|hg);(exact D.2 (by rw[hg,e]));omega,D.2⟩) _ _ E
 exact OL.mono (fun b D _=>⟨D.1,fun e=>by simp only[Value.ownBlock,Option.some.injEq] at e;exact D.2.1 e.symm⟩) _ _ (OL.later ac _ _ h0)
def nxt (c:Ctx)(w:Ov):Nat:=match w.cell? (Ot c.R 1) with|some (.int _ v)=>v.toNat|_=>0
def U9 {c:Ctx}{w:Ov}{i d:Nat}(h:PW c w i d):nxt c w=i:=by unfold nxt;rw[h.c1];rfl
def RY (w:Ov)(p H:Nat)(h:w.heap.size=H):∀ j u,[Oo p][j]? = some u->(w.alloc (.cells #[Oo p] 22)).cell? (((Ot H 0):Addr).add j)=some u:=by
 intro j u aN
 match j,aN with
 | 0,aN=>
  simp only[List.getElem?_cons_zero,Option.some.injEq] at aN;subst aN;subst h;rw[show ((Ot w.heap.size 0):Addr).add 0=(Ot w.heap.size 0) from rfl,cell_of (OA _ _)];rfl
 | j+1,aN=>simp at aN
def one_one (p:Nat):∀ u ∈ [Oo p],u.oneCell'=true:=by
 intro u aT;simp only[List.mem_singleton] at aT;subst aT;rfl
def aaE {c:Ctx}{B:Nat}{w w1:Ov}{ao:List Tr}{v:OG}{t:Tr}{p:Nat}(E:KV B w ao v)(a8:B<=w.heap.size)(ax:Ap c.R w.heap.size w w1)(cE:c.R<B)(az:Qb (From w.heap.size) w1 t p) :
  ∃ ps,w1.ownsRow B 22 1 v ps.length (ps.map Oo)/\OL (fun b=>B<=b/\v.ownBlock≠some b) w1 ao ps/\OL (fun b=>B<=b/\v.ownBlock≠some b) w1 (ao++[t]) (ps++[p]):=by
 have hown:=E.own;obtain⟨ps,aa,ac⟩:=E;have h1:=OL.later (I:=fun b=>(B<=b/\v.ownBlock≠some b)/\b<w.heap.size) (Vg.XO ax cE fun _ h=>h.1.1) _ _ (OL.mono (fun _ D hl=>⟨D,hl⟩) _ _ ac);refine⟨ps,RF (I:=fun b=>B<=b) (Vg.XO ax cE fun _ h=>h) (fun g hg=>(Qj aa g hg).2) aa,OL.mono (fun b D _=>D.1) _ _ h1,OL.append (M:=w.heap.size) _ _ (OL.cons ?_ OL.nil) h1⟩;exact Qb.mono (fun b D _=>⟨⟨Nat.le_trans a8 D,fun e=>by have:=(hown b e).1;have:w.heap.size<=b:=D;omega⟩,D⟩) _ _ az
def QZ {c:Ctx}{F:SX}(ah:FC c F)(hN:∃ k,FNx c.l k F):Does c 149 EV (PX c.l F):=by
 have jx:=RN c.R 160;intro w d i r ac aR h;have dH:=h.base.ends;have dU:=hide h.base.len;have z:=Oq (∀{G}(h:G:=by
 have e1:=(Ap.refl c.R w.heap.size w);have bS:=hide h.rlt;have nJ:=hide hN;unfold PX at ac;have a':=hide ac;have dw:=hide aR;clear ac aR hN;go_enter func149,ntmps149
 cases aa:Pm c.l Ug i with
 | out=>
  exact RS
 | bad er p=>
  have ai:=(Pq c Ug w i d h Oz);exact abd
 | ok cp bK=>
  have ai:=(Pq c Ug w i d h Oz);have z:=Oq (∀{G}(h:G:=by
  have z:=Oq (∀{G}(h:G:=by
  have bM:=ba;clear ax h;go_wp2_with fail
  go_loopw [3] (fun v wr=>∃ k aX j,(Qa c.l F d k aX j).bind (fun ao i2=>PR.ok (.mk 6 Ox 0 ao) i2)=r/\PW c wr j d/\Ap c.R w.heap.size w wr/\KV w.heap.size wr aX v/\aX.length<=j) (fun _ wr=>c.l.length - nxt c wr)
  case atStart=>exact⟨F.fuel,[],bK,a'.out,bM,ew,KV.nil _ _,Nat.zero_le _⟩
  case round=>
   obtain⟨k,aX,j,ag,ba,gA,nZ,gc⟩:=hrel
   cases k with
   | zero=>exact absurd ag.symm dw.out
   | succ k=>
    have dr:=Om dU;have nc:=ba.lt;have bj:=ba;have ov:=ba;have p8:=hide gc
    by_cases ae:fx c.l j=WE
    ·have bm:Hid (PR.ok (.mk 6 Ox 0 aX) (j+1)=r):=by
      unfold Qa at ag;rw[if_pos ae,bind_ok] at ag;exact ag
     have ai:=(SQ c WE wr j d ba ae Oz);obtain⟨va,dD,rfl⟩:=nZ.shape;clear ag gc ae;go_wp2_with fail;refine cm ai ?_;rintro e ap ⟨rfl,iR,ha3⟩;have jm:=(gA.next ha3);have dp:=iR;have jE:=(KV.later nZ ha3 bS.out);have ai:=(PV 6 Ox (.slice va aX.length dD) ap ⟨_,_,_,rfl⟩);have z:=Oq (∀{G}(h:G:=by
     obtain⟨cO,cP,df⟩:=aaS dp jm jE 6 Ox _ rfl;exact Ue bm.out.symm cO cP df),G);exact aaD
    ·have bm:Hid ((PD c.l F.st d j).bind (fun t a7=>(Qa c.l F d k (aX++[t]) a7).bind fun ao i2=>PR.ok (.mk 6 Ox 0 ao) i2)=r):=by
      unfold Qa at ag;rw[if_neg ae] at ag;rw[<-ag]
      cases PD c.l F.st d j <;> rfl
     have ai:=(Uf c WE wr j d ba ae);clear ag gc ae
     cases aa:PD c.l F.st d j with
     | out=>
      exact ax0
     | bad er p=>
      have bW:=hide aa;rw[aa] at bm;simp only[PG] at bm;clear aa;have z:=Oq (∀{G}(h:G:=by
      have ai:=(aaT ah ap d j dp (by rw[bW.out];nofun))
      exact aD3),G);exact aqb
     | ok t b'=>
      have bW:=hide aa;rw[aa] at bm;simp only[bind_ok] at bm;clear aa;have z:=Oq (∀{G}(h:G:=by
      have jE:=(KV.later nZ (Ap.of br) bS.out);have ai:=(aaT ah ap d j dp (by rw[bW.out];nofun))
      have z:=Oq (∀{G}(h:G:=by
      have km:j<b':=by
       obtain⟨j7,cT⟩:=Om nJ;exact((QT (l:=c.l) (d:=d) (cT.st (d+1) j nc)).2 t b' bW.out).1
      have z:=Oq (∀{G}(h:G:=by
      go_roundw
      case rel=>exact⟨k,aX++[t],b',bm.out,fm,mO,l7,by simp;omega⟩
      case measure=>rw[U9 fm,U9 ov];omega),G);exact aEm),G);exact aEz),G);exact aqb),G);exact aht),G);exact XZ),G);exact amL
def Asks (c:Ctx)(f:Nat)(b:Nat->Bool):Prop:=
 ∀ w d i,PW c w i d->OE f #[Pj c] w fun e w'=>e=OQ (OC (b i))/\OD w w'
def LV (B:Nat)(w:Ov)(ao:List Tr)(v:OG):Prop:=KV B w ao v/\(ao=[]->v=.slice none 0 0)/\ao.length<=3001
def Yt {c:Ctx}(q8 Aa:Nat)(begins:Nat->Bool)(ns:Nat->Nat->PR Tr)(opn shut:OH)(D:Asks c q8 begins)(al:Does c Aa NV ns)
  (LS:VR q8) (LT:VR Aa)
  (gM:opn≠Ox) (fv:shut≠Ox) (ud:∀ d i t j,i<c.l.length->ns d i=.ok t j->i<j)
  (k:Nat) (w:Ov) (d i:Nat) (r:PR (List Tr)) (ac:UQ c.l opn shut begins (ns d) k i=r) (aR:r≠.out) (h:PW c w i d) :
  OE 227 #[Pj c,OB opn,OB shut,Vh c.R q8,Vh c.R Aa] w (Qn c w d (LV w.heap.size) r):=by
 have dU:=hide h.base.len;have z:=Oq (∀{G}(h:G:=by
 have e1:=(Ap.refl c.R w.heap.size w);have bS:=hide h.rlt;have HP:=al;have mY:=hide gM;have fL:=hide fv;have zb:=hide ud;unfold UQ at ac;have a':=hide ac;have dw:=hide aR;clear ac aR gM fv ud;unfold Vh;go_enter func227,ntmps227
 cases aa:Pm c.l opn i with
 | out=>
  exact RS
 | bad er p=>
  have ai:=hide (Pq c opn w i d h mY.out);rw[aa] at ai a';simp only[PG] at a';clear aa;go_wp2_with fail;refine cm ai.out ?_;exact axP
 | ok cp bK=>
  have ai:=hide (Pq c opn w i d h mY.out);rw[aa] at ai a';simp only[bind_ok] at a';clear aa;go_wp2_with fail;refine cm ai.out ?_;have z:=Oq (∀{G}(h:G:=by
  have bM:=ba;clear ax h
  by_cases ae:fx c.l bK=shut
  ·have ai:=hide (SQ c shut w1 bK d bM ae fL.out);rw[if_pos ae] at a';clear ae;go_wp2_with fail;refine cm ai.out ?_;rintro e w2 ⟨rfl,hr2,ha2⟩;have ee:=(ew.next ha2);have bj:=hr2;go_wp2;go_ret;exact Ue a'.out.symm ⟨KV.nil _ _,fun _=>rfl,by simp⟩ bj ee
  ·have ai:=hide (Uf c shut w1 bK d bM ae);rw[if_neg ae] at a';clear ae;go_wp2_with fail;refine cm ai.out ?_;rintro e w2 ⟨rfl,aF⟩;have ee:=(ew.next (Ap.of aF));have bj:=(bM.later aF);go_wp2_with fail
   go_loopw [11] (fun v wr=>∃ k aX j,QN c.l shut begins (ns d) k aX j=r/\PW c wr j d/\Ap c.R w.heap.size w wr/\KV w.heap.size wr aX v/\aX.length<=j) (fun _ wr=>c.l.length - nxt c wr)
   case atStart=>exact⟨k,[],bK,a'.out,bj,ee,KV.nil _ _,Nat.zero_le _⟩
   case round=>
    obtain⟨k,aX,j,ag,ba,gA,nZ,gc⟩:=hrel
    cases k with
    | zero=>exact absurd ag.symm dw.out
    | succ k=>
     have dr:=Om dU;have nc:=ba.lt;have bj:=ba;have ov:=ba;have ee:=gA;have p8:=hide gc;unfold QN at ag;have bm:=hide ag;clear ag gc;obtain⟨va,dD,rfl⟩:=nZ.shape
     by_cases fQ:aX.length=8
     ·
      cases hbg:begins j with
      | true=>
       rw[if_pos ⟨fQ,hbg⟩] at bm;have z:=Oq (∀{G}(h:G:=by
       have ai:=hide (Vq c 4 ap j d (bj.later br));go_wp2_with fail;refine cm ai.out ?_;rintro e bA ⟨rfl,dh⟩;exact⟨rfl,Qo bm.out.symm (jm.next (Ap.of dh))⟩),G);exact aED
      | false=>
       rw[if_neg (by rw[hbg];rintro⟨_,hh⟩;cases hh)] at bm
       have z:=Oq (∀{G}(h:G:=by
       have dp:=(bj.later br);have jE:=(KV.later nZ (Ap.of br) bS.out);clear Dm;have z:=Oq (∀{G}(h:G:=by
       cases aa:ns d j with
       | out=>
        exact ayo
       | bad er p=>
        have ai:Hid _:=HP ap d j _ rfl (by rw[aa];nofun) dp
        have z:=Oq (∀{G}(h:G:=by
        exact⟨rfl,Qo k6.out.symm (jm.next ax)⟩),G);exact ayf
       | ok t b'=>
        have ai:Hid _:=HP ap d j _ rfl (by rw[aa];nofun) dp
        have z:=Oq (∀{G}(h:G:=by
        have tc:=(jm.next ax);have gw:=ba;have qW:=hide (aaE jE jm.size ax bS.out oX);have kG:=(KV.later jE ax bS.out);exact aFj),G);exact aEJ),G);exact aEL),G);exact aED
     ·rw[if_neg (fun hh=>fQ hh.1)] at bm;have Dm:((aX.length:Int)==8)=false:=beq_eq_false_iff_ne.2 Ou;clear fQ;have z:=Oq (∀{G}(h:G:=by
      cases aa:ns d j with
      | out=>
       exact ayo
      | bad er p=>
       have ai:Hid _:=HP wr d j _ rfl (by rw[aa];nofun) bj
       have z:=Oq (∀{G}(h:G:=by
       exact⟨rfl,Qo k6.out.symm (ee.next ax)⟩),G);exact ayf
      | ok t b'=>
       have ai:Hid _:=HP wr d j _ rfl (by rw[aa];nofun) bj
       have z:=Oq (∀{G}(h:G:=by
       have tc:=(ee.next ax);have gw:=ba;have qW:=hide (aaE nZ ee.size ax bS.out oX);have kG:=(KV.later nZ ax bS.out);exact aFj),G);exact aEJ),G);exact aEL),G);exact aht),G);exact amL
def FOk (F:SX):Prop:=∀ d i t j,F.st d i=.ok t j->t.kd=15->∃ v r,t.kids=v::r
def ahB {l:List Tk}{f:Nat->Nat->PR Tr}{d i j:Nat}{t:Tr}(h:PD l f d i=.ok t j):f (d+1) i=.ok t j:=by
 unfold PD at h
 split at h
 ·
  cases h
 ·exact h
section
variable {l:List Tk} {F:SX} (ah:FOk F)
include l F ah
theorem adt {d:Nat}:∀ n aX i ao j,(∀ t ∈ aX,t.kd=15->∃ v r,t.kids=v::r)->Qa l F d n aX i=.ok ao j->∀ t ∈ ao,t.kd=15->∃ v r,t.kids=v::r:=by
 intro n
 induction n with
 | zero=>intro aX i ao j _ h;cases h
 | succ n bn=>
  intro aX i ao j hacc h;unfold Qa at h
  split at h
  ·
   cases h;exact hacc
  ·
   cases aa:PD l F.st d i with
   | out=>rw[aa] at h;cases h
   | bad er p=>rw[aa] at h;cases h
   | ok t bK=>
    rw[aa,bind_ok] at h;refine bn _ _ _ _ (fun u aT=>?_) h
    rcases List.mem_append.1 aT with aT|aT
    ·exact hacc u aT
    ·rw[List.mem_singleton] at aT;subst aT;exact ah _ _ _ _ (ahB aa)
theorem WV {d i j:Nat}{t:Tr}(h:PX l F d i=.ok t j):aqD t:=by
 unfold PX at h
 cases aS:Pm l Ug i with
 | out=>rw[aS] at h;cases h
 | bad er p=>rw[aS] at h;cases h
 | ok x bK=>
  rw[aS,bind_ok] at h
  cases D:Qa l F d F.fuel [] bK with
  | out=>rw[D] at h;cases h
  | bad er p=>rw[D] at h;cases h
  | ok ao b'=>
   rw[D,bind_ok] at h;cases h;intro bQ r E jf;have Ed:ao=bQ::r:=E;exact adt ah _ _ _ _ _ (fun _ aT=>absurd aT O8) D bQ (by rw[Ed];simp) jf
end
def akX:VR 228:=fun _ _=>by kernel_rfl
def avi:VR 281:=fun _ _=>by kernel_rfl
def avj:VR 229:=fun _ _=>by kernel_rfl
def ZY (c:Ctx):Asks c 228 (isName c.l):=fun w d i h=>Zj c w i d h
section
variable {c:Ctx}
include c
def atI {F:SX}(ah:FC c F):Does c 349 NV (aaZ c.l F):=by
 have z:=Oq (∀{G}(h:G:=by
 unfold aaZ at ac;have a':=hide ac;have dw:=hide aR;clear ac aR;go_enter func349,ntmps349
 cases aa:PD c.l F.vl d i with
 | out=>
  rw[aa] at a';exact absurd a'.out.symm dw.out
 | bad er p=>
  have ai:=(VG ah w d i h (by rw[aa];nofun))
  rw[aa] at ai a';clear aa;go_wp2_with fail;refine cm ai ?_;exact axP
 | ok cp bK=>
  have ai:=(VG ah w d i h (by rw[aa];nofun))
  rw[aa] at ai a';clear aa;go_wp2_with fail;have z:=Oq (∀{G}(h:G:=by
  have ew:=(e1.next ax);have eh:=(TB gL e1.size);clear h;go_wp2;go_ret;exact Ue a'.out.symm ⟨p1,rfl,eh⟩ ba ew),G);exact atz),G);exact atH
def aef:Does c 281 NV (fun _=>Td c.l):=by
 intro w d i r ac aR h;have e1:=(Ap.refl c.R w.heap.size w)
 dsimp only at ac
 unfold Td at ac;have a':=hide ac;have dw:=hide aR;clear ac aR;go_enter func281,ntmps281
 cases aa:nameP c.l i with
 | out=>
  exact RS
 | bad er p=>
  have ai:=(name_any c w i d h);exact abd
 | ok cp bK=>
  have ai:=(name_any c w i d h);have z:=Oq (∀{G}(h:G:=by
  have z:=Oq (∀{G}(h:G:=by
  clear h;have ai:=(PV 23 cp QD w1 ⟨_,_,_,rfl⟩);have z:=Oq (∀{G}(h:G:=by
  obtain⟨cO,cP,df⟩:=aaS ba ew (KV.nil _ _) 23 cp _ rfl;exact Ue a'.out.symm cO.nv cP df),G);exact aaD),G);exact aht),G);exact XZ
def ahH {F:SX}(ah:FC c F):Does c 229 NV (UZ c.l F):=by
 have z:=Oq (∀{G}(h:G:=by
 unfold UZ at ac;have a':=hide ac;have dw:=hide aR;clear ac aR;go_enter func229,ntmps229
 cases aa:nameP c.l i with
 | out=>
  exact RS
 | bad er p=>
  have ai:=(name_any c w i d h);exact abd
 | ok cp bK=>
  have ai:=(name_any c w i d h);have z:=Oq (∀{G}(h:G:=by
  have z:=Oq (∀{G}(h:G:=by
  have bM:=ba;clear h
  cases aa:Pm c.l aeo bK with
  | out=>
   exact RS
  | bad er p=>
   have ai:=(Pq c aeo w1 bK d bM Oz);exact ap4
  | ok dG b'=>
   have ai:=(Pq c aeo w1 bK d bM Oz);have z:=Oq (∀{G}(h:G:=by
   intro e w2 al;obtain⟨⟨v2,rfl,rfl⟩,ba,ax⟩:=al;have ee:=(ew.next ax);have bj:=ba
   cases aa:PD c.l F.vl d b' with
   | out=>
    exact RS
   | bad er p=>
    have ai:=(VG ah w2 d b' bj (by rw[aa];nofun))
    exact ap3
   | ok jk gr=>
    have ai:=(VG ah w2 d b' bj (by rw[aa];nofun))
    have z:=Oq (∀{G}(h:G:=by
    intro e ap al;obtain⟨⟨v3,rfl,cX,rfl,oW⟩,ba,ax⟩:=al;have jm:=(ee.next ax);have qV:=(TB oW ee.size);have ai:=(PV 39 cp (.slice (some (Ot ap.heap.size 0)) 1 1) (ap.alloc (.cells #[Oo cX] 22)) ⟨_,_,_,rfl⟩);have z:=Oq (∀{G}(h:G:=by
    obtain⟨cO,cP,df⟩:=made ba jm (OL.cons qV OL.nil) (by simp[maxLen]) #[Oo cX] rfl 1 rfl 39 cp (ap.heap.size+1) rfl;exact Ue a'.out.symm cO.nv cP df),G);exact aaD),G);exact XZ),G);exact XZ),G);exact aht),G);exact XZ),G);exact atH
def aeg (aD:Ends c.l)(d i:Nat)(t:Tr)(j:Nat)(am:i<c.l.length)(h:(fun(_:Nat)=>Td c.l) d i=.ok t j):i<j:=((adK (q:=True) aD am).2 t j h).1
def ahI {F:SX}{k:Nat}(hN:FNx c.l k F)(aD:Ends c.l)(d i:Nat)(t:Tr)(j:Nat)(am:i<c.l.length)(h:UZ c.l F d i=.ok t j):i<j:=((agk (q:=False) aD hN am (fun h=>h.elim)).2 t j h).1
def atJ {F:SX}{k:Nat}(hN:FNx c.l k F)(d i:Nat)(t:Tr)(j:Nat)(am:i<c.l.length)(h:aaZ c.l F d i=.ok t j):i<j:=((aeA (q:=False) hN am (fun h=>h.elim)).2 t j h).1
def ajM {F:SX}:Does c 226 NV (fun _=>QY c.l F):=by
 have jx:=RN c.R 228;have Ep:=RN c.R 281;intro w d i r ac aR h;have dH:=h.base.ends;have e1:=(Ap.refl c.R w.heap.size w)
 dsimp only at ac
 unfold QY at ac;have a':=hide ac;have dw:=hide aR;clear ac aR;go_enter func226,ntmps226
 cases aa:UQ c.l Rk SA (isName c.l) (Td c.l) F.fuel i with
 | out=>
  exact RS
 | bad er p=>
  have ai:=(Yt 228 281 (isName c.l) (fun _=>Td c.l) Rk SA (ZY c) aef akX avi Oz Oz (aeg dH) F.fuel w d i _ rfl (by rw[aa];nofun) h)
  exact abd
 | ok cp bK=>
  have ai:=(Yt 228 281 (isName c.l) (fun _=>Td c.l) Rk SA (ZY c) aef akX avi Oz Oz (aeg dH) F.fuel w d i _ rfl (by rw[aa];nofun) h)
  have z:=Oq (∀{G}(h:G:=by
  have z:=Oq (∀{G}(h:G:=by
  have ai:=(PV 40 Ox (.slice va cp.length dD) w1 ⟨_,_,_,rfl⟩);have z:=Oq (∀{G}(h:G:=by
  obtain⟨cO,cP,df⟩:=aaS ba ew eh 40 Ox _ rfl;exact Ue a'.out.symm cO.nv cP df),G);exact aaD),G);exact aE2),G);exact XZ
def ajN {F:SX}(ah:FC c F)(hN:∃ k,FNx c.l k F):Does c 156 NV (Tf c.l F):=by
 have jx:=RN c.R 228;have Ep:=RN c.R 229;obtain⟨k,hN⟩:=hN;intro w d i r ac aR h;have dH:=h.base.ends;have e1:=(Ap.refl c.R w.heap.size w);unfold Tf at ac;have a':=hide ac;have dw:=hide aR;clear ac aR;go_enter func156,ntmps156
 cases aa:UQ c.l Ug WE (isName c.l) (UZ c.l F d) F.fuel i with
 | out=>
  exact RS
 | bad er p=>
  have ai:=(Yt 228 229 (isName c.l) (UZ c.l F) Ug WE (ZY c) (ahH ah) akX avj Oz Oz (ahI hN dH) F.fuel w d i _ rfl (by rw[aa];nofun) h)
  exact abd
 | ok cp bK=>
  have ai:=(Yt 228 229 (isName c.l) (UZ c.l F) Ug WE (ZY c) (ahH ah) akX avj Oz Oz (ahI hN dH) F.fuel w d i _ rfl (by rw[aa];nofun) h)
  have z:=Oq (∀{G}(h:G:=by
  have z:=Oq (∀{G}(h:G:=by
  have ai:=(PV 38 Ox (.slice va cp.length dD) w1 ⟨_,_,_,rfl⟩);have z:=Oq (∀{G}(h:G:=by
  obtain⟨cO,cP,df⟩:=aaS ba ew eh 38 Ox _ rfl;exact Ue a'.out.symm cO.nv cP df),G);exact aaD),G);exact aE2),G);exact XZ
def empty_any:Does c 150 NV (fun _ i=>(Pm c.l Qv i).bind fun _ a7=>.ok (.mk 16 Ox 0 []) a7):=by
 intro w d i r ac aR h;have e1:=(Ap.refl c.R w.heap.size w)
 dsimp only at ac
 have a':=hide ac;have dw:=hide aR;clear ac aR;go_enter func150,ntmps150
 cases aa:Pm c.l Qv i with
 | out=>
  exact RS
 | bad er p=>
  have ai:=(Pq c Qv w i d h Oz);exact abd
 | ok cp bK=>
  have ai:=(Pq c Qv w i d h Oz);have z:=Oq (∀{G}(h:G:=by
  have z:=Oq (∀{G}(h:G:=by
  clear h;have ai:=(PV 16 Ox QD w1 ⟨_,_,_,rfl⟩);have z:=Oq (∀{G}(h:G:=by
  obtain⟨cO,cP,df⟩:=aaS ba ew (KV.nil _ _) 16 Ox _ rfl;exact Ue a'.out.symm cO.nv cP df),G);exact aaD),G);exact aht),G);exact XZ
end
structure Open (B:Nat)(w:Ov)(t:Tr)(p:Nat)(u:OG)(ps:List Nat):Prop where
 low:B<=p
 blk:w.heap[p]? = some (Px t.kd t.tx t.n u)
 row:w.ownsRow B 22 1 u ps.length (ps.map Oo)
 own:u.ownBlock≠some p
 kids:OL (fun b=>B<=b/\b≠p/\u.ownBlock≠some b) w t.kids ps
def EV.opens {B:Nat}{w:Ov}{t:Tr}{v:OG}(h:EV B w t v):∃ p u ps,v=Oo p/\Open B w t p u ps:=by
 obtain⟨p,u,ps,rfl,h1,U,aw,aL,bE⟩:=h;exact⟨p,u,ps,rfl,h1,U,aw,aL,bE⟩
def Open.ev {B:Nat}{w:Ov}{t:Tr}{p:Nat}{u:OG}{ps:List Nat}(h:Open B w t p u ps):EV B w t (Oo p):=⟨p,u,ps,rfl,h.low,h.blk,h.row,h.own,h.kids⟩
def Open.later {c:Ctx}{B:Nat}{w w':Ov}{t:Tr}{p:Nat}{u:OG}{ps:List Nat}(h:Open B w t p u ps)(ax:Ap c.R w.heap.size w w')(a8:c.R<B):Open B w' t p u ps:=
 ⟨h.low,by rw[ax.block p (lt_of_heap h.blk) (by have:=h.low;omega)];exact h.blk,RF (I:=fun b=>B<=b) (Vg.XO ax a8 fun _ h=>h) (fun g hg=>(Qj h.row g hg).2) h.row,h.own,OL.later (Vg.XO ax a8 fun _ h=>h.1) _ _ h.kids⟩
section
variable {B:Nat} {w:Ov} {t:Tr} {p:Nat} {u:OG} {ps:List Nat} (h:Open B w t p u ps)
include B w t p u ps h
theorem Open.cell:w.cell? (Ot p 3)=some u/\(∀ o,w.frozen? (Ot p o)=false)/\p<w.heap.size:=
 ⟨(node_cells h.blk).2.2.2.1,(node_cells h.blk).2.2.2.2,lt_of_heap h.blk⟩
theorem Open.shape:∃ a cap,u=.slice a t.kids.length cap:=by
 rw[<-OL.length _ _ h.kids];exact U3 h.row
end
def Open.apart {c:Ctx}{B:Nat}{w w1:Ov}{t:Tr}{p:Nat}{u:OG}{ps:List Nat}(h:Open B w t p u ps)(a8:B<=w.heap.size)(ax:Ap c.R w.heap.size w w1)(cE:c.R<B){fE:List Tr}{dO:List Nat}(az:OL (From w.heap.size) w1 fE dO) :
  OL (fun b=>B<=b/\b≠p/\u.ownBlock≠some b) w1 (t.kids++fE) (ps++dO):=
 OL.append (M:=w.heap.size) _ _ (OL.mono (fun b D _=>by
  have h1:w.heap.size<=b:=D;have U:=lt_of_heap h.blk;exact⟨⟨by omega,by omega,fun e=>by have:=(Qj h.row b e).1;omega⟩,h1⟩) _ _ az)
  (OL.later (I:=fun b=>(B<=b/\b≠p/\u.ownBlock≠some b)/\b<w.heap.size) (Vg.XO ax cE fun _ h=>h.1.1) _ _ (OL.mono (fun _ D hl=>⟨D,hl⟩) _ _ h.kids))
def akZ {B:Nat}{w0 ap:Ov}{kd n:Int}{tx:OH}{ao fE:List Tr}{ps dO:List Nat}{p g m cap:Nat}{u:OG}(a8:B<=p)(D:w0.heap[p]? = some (Px kd tx n u))(aT:u.ownBlock≠some p)
  (E:OL (fun b=>B<=b/\b≠p/\u.ownBlock≠some b) w0 (ao++fE) (ps++dO))
  (hown:ap.ownsRow B 22 1 (.slice (some (Ot g 0)) m cap) m ((ps++dO).map Oo)) (aS:m=(ps++dO).length) (dg:w0.grownBy ap u.ownBlock) (hg:u.ownBlock=some g\/g=w0.heap.size) :
  EV B (ap.setCell (Ot p 3) (.slice (some (Ot g 0)) m cap)) (.mk kd tx n (ao++fE)) (Oo p):=by
 subst aS;have aQ:=lt_of_heap D;have D':g≠p:=by
  rcases hg with hg|hg
  ·exact fun e=>aT (by rw[hg,e])
  ·omega
 have aw:ap.heap[p]? = some (Px kd tx n u):=by rw[dg.block p aQ (fun e=>aT e.symm)];exact D
 have hset:∀ b,b≠p->(ap.setCell (Ot p 3) (.slice (some (Ot g 0)) (ps++dO).length cap)).heap[b]? = ap.heap[b]?:=fun b D=>Below.heap_setCell ap (Ot p 3) _ b D;refine⟨p,.slice (some (Ot g 0)) (ps++dO).length cap,ps++dO,rfl,a8,by rw[heap_set aw];rfl,?_,fun e=>D' (by simpa[Value.ownBlock] using e),?_⟩
 ·exact RF (I:=fun b=>b=g) (fun b D _=>hset b (by rw[D];exact D')) (fun g2 iM=>by simpa[Value.ownBlock] using iM.symm) hown
 ·have h0:=OL.mono (J:=fun b=>B<=b/\b≠p/\b≠g/\u.ownBlock≠some b) (fun b D hl=>⟨D.1,D.2.1,fun e=>by (rcases hg with hg|hg);(exact D.2.2 (by rw[hg,e]));omega,D.2.2⟩) _ _ E
  have ac:Vg (fun b=>B<=b/\b≠p/\b≠g/\u.ownBlock≠some b) w0 (ap.setCell (Ot p 3) (.slice (some (Ot g 0)) (ps++dO).length cap)):=by
   intro b D hl;rw[hset b D.2.1];exact dg.block b hl (fun e=>D.2.2.2 e.symm)
  exact OL.mono (fun b D _=>⟨D.1,D.2.1,fun e=>by simp only[Value.ownBlock,Option.some.injEq] at e;exact D.2.2.1 e.symm⟩) _ _ (OL.later ac _ _ h0)
def YX {c:Ctx}{w w1 ap:Ov}{j d:Nat}{t x:Tr}{p q g cap:Nat}{u:OG}{ps:List Nat}(eB:Open w.heap.size w1 t p u ps)(ae:OL (fun b=>w.heap.size<=b/\b≠p/\u.ownBlock≠some b) w1 (t.kids++[x]) (ps++[q]))(cE:PW c w1 j d)(aO:Ap c.R w.heap.size w w1)(n0:c.lo<=w.heap.size)
  (hown:ap.ownsRow w.heap.size 22 1 (.slice (some (Ot g 0)) (t.kids.length+1) cap) (t.kids.length+1) (ps.map Oo++[Oo q])) (dg:(w1.alloc (.cells #[Oo q] 22)).grownBy ap u.ownBlock) (hg:u.ownBlock=some g\/g=w1.heap.size+1) :
  EV w.heap.size (ap.setCell (Ot p 3) (.slice (some (Ot g 0)) (t.kids.length+1) cap)) (.mk t.kd t.tx t.n (t.kids++[x])) (Oo p) /\
  PW c (ap.setCell (Ot p 3) (.slice (some (Ot g 0)) (t.kids.length+1) cap)) j d /\
  Ap c.R w.heap.size w (ap.setCell (Ot p 3) (.slice (some (Ot g 0)) (t.kids.length+1) cap)):=by
 have hlen:=OL.length _ _ eB.kids;have bI:∀ I,Vg I w1 (w1.alloc (.cells #[Oo q] 22)):=fun I b _ hl=>Below.heap_alloc w1 _ b hl;have D:(w1.alloc (.cells #[Oo q] 22)).heap[p]? = some (Px t.kd t.tx t.n u):=by rw[Below.heap_alloc w1 _ p (lt_of_heap eB.blk)];exact eB.blk
 have hrow:∀ k,u.ownBlock=some k->w.heap.size<=k:=fun k E=>(Qj eB.row k E).2;have hgrow:Below w.heap.size w1 ap:=((Below.refl w.heap.size w1).alloc aO.size _).grown dg (by simp;have:=aO.size;omega) hrow
 have hset:Below w.heap.size w1 (ap.setCell (Ot p 3) (.slice (some (Ot g 0)) (t.kids.length+1) cap)):=hgrow.setCell (p:=(Ot p 3)) eB.low _;refine⟨?_,cE.ap hset n0,aO.trans (Ap.of hset)⟩;refine akZ (w0:=w1.alloc (.cells #[Oo q] 22)) eB.low D eB.own (OL.later (bI _) _ _ ae) (by rw[List.map_append];exact hown) (by simp[hlen]) dg ?_
 rcases hg with hg|hg
 ·exact Or.inl hg
 ·exact Or.inr (by simp[hg])
