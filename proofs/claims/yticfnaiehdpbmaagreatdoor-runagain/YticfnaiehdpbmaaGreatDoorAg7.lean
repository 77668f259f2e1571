import Derived.Test.YticfnaiehdpbmaaGreatDoorAg4
import Derived.Test.YticfnaiehdpbmaaGreatDoorAg5
set_option maxRecDepth 100000
set_option maxHeartbeats 8000000
set_option linter.unusedVariables false
namespace Go.Proofs.YticfnaiehdpbmaaGreatDoor
open Go.RowKit Go.Proofs.Tryz
def UR (bf bH:List NR)(s:NR)(k:Nat):Rd:=
 if Z4 ((bt s k).toNat:Int)=true then Ti bf s k
 else if Pz ((bt s k).toNat:Int)=true then rdNum s k
 else if bt s k=39 then rdStr s k
 else Uu bH s k
structure Lists (bf bH:List NR)(w:Ny):Prop where
 lw:bf.length=19
 lg:bH.length=19
 zg:∀ i,i<19->(bH.getD i ByteArray.empty).size<=3
 hw:∃ t fr,w.heap[6]? = some (.cells (bf.map Value.string).toArray t fr)
 hg:∃ t fr,w.heap[2]? = some (.cells (bH.map Value.string).toArray t fr)
theorem Lists.lt {bf bH:List NR}{w:Ny}(h:Lists bf bH w):6<w.heap.size:=by
 obtain⟨t,fr,hg⟩:=h.hw;exact(Array.getElem?_eq_some_iff.1 hg).1
theorem Lists.later {bf bH:List NR}{w w':Ny}(h:Lists bf bH w)(D:NJ w w'):Lists bf bH w':=by
 obtain⟨t,fr,hw⟩:=h.hw;obtain⟨t2,vo,hg⟩:=h.hg;have hl:=(Array.getElem?_eq_some_iff.1 hw).1;have gg:=(Array.getElem?_eq_some_iff.1 hg).1;exact⟨h.lw,h.lg,h.zg,⟨t,fr,by rw[D.block 6 Nw];exact hw⟩,⟨t2,vo,by rw[D.block 2 Nw];exact hg⟩⟩
section
variable (bf bH:List NR) (s:NR) (k:Nat) (kd n:Int) (tx:NR) (e:Nat) (w:Ny) (ae:s.size<=3000) (E:k<s.size) (dz:Lists bf bH w)
include bf bH s k kd n tx e w ae E dz
theorem aee (hl:Z4 (s[k].toNat:Int)=true)(U:Ti bf s k=.tok kd tx n e) :
  NK 68 #[ND s,Nr (k:Int)] w (SA k (.tok kd tx n e) w):=by
 have z:=kk (∀{G}(h:G:=by
 have z:=kk (∀{G}(h:G:=by
 rintro kc b' ⟨rfl,fv⟩;have nI:=hbel.trans (fv.mono hbel.size);exact aBi),G);exact aCE),G);exact aBU
theorem ags (hl:Z4 (s[k].toNat:Int)=false)(hd:Pz (s[k].toNat:Int)=true)(U:rdNum s k=.tok kd tx n e) :
  NK 68 #[ND s,Nr (k:Int)] w (SA k (.tok kd tx n e) w):=by
 have z:=kk (∀{G}(h:G:=by
 have ge:=ZG s k bB ae E d3.out;rw[dk.out] at ge;refine cm ge ?_;exact avO),G);exact zsq
theorem agt (hl:Z4 (s[k].toNat:Int)=false)(hd:Pz (s[k].toNat:Int)=false)(ag:(((s[k].toNat:Nat):Int)==39)=true)(U:rdStr s k=.tok kd tx n e) :
  NK 68 #[ND s,Nr (k:Int)] w (SA k (.tok kd tx n e) w):=by
 have z:=kk (∀{G}(h:G:=by
 have ge:=ZH s k bB ae E;rw[dk.out] at ge;refine cm ge ?_;exact avO),G);exact zsq
theorem aef (hl:Z4 (s[k].toNat:Int)=false)(hd:Pz (s[k].toNat:Int)=false)(ag:(((s[k].toNat:Nat):Int)==39)=false)(U:Uu bH s k=.tok kd tx n e) :
  NK 68 #[ND s,Nr (k:Int)] w (SA k (.tok kd tx n e) w):=by
 have z:=kk (∀{G}(h:G:=by
 have z:=kk (∀{G}(h:G:=by
 clear hg;exact avO),G);exact aCF),G);exact zsq
end
section
variable (bf bH:List NR) (s:NR) (k:Nat) (er:Int) (p:Nat) (w:Ny) (ae:s.size<=3000) (E:k<s.size) (dz:Lists bf bH w)
include bf bH s k er p w ae E dz
theorem acd (hl:Z4 (s[k].toNat:Int)=true)(U:Ti bf s k=.bad er p) :
  NK 68 #[ND s,Nr (k:Int)] w (SA k (.bad er p) w):=by
 have z:=kk (∀{G}(h:G:=by
 have z:=kk (∀{G}(h:G:=by
 rintro kc b' ⟨b,rfl,D,jt,Ak⟩;have nI:=hbel.trans (Ak.mono hbel.size);have qt:=Nat.le_trans hbel.size jt;exact aBh),G);exact aCE),G);exact aBU
theorem aeg (hl:Z4 (s[k].toNat:Int)=false)(hd:Pz (s[k].toNat:Int)=true)(U:rdNum s k=.bad er p) :
  NK 68 #[ND s,Nr (k:Int)] w (SA k (.bad er p) w):=by
 have z:=kk (∀{G}(h:G:=by
 have ge:=ZG s k bB ae E d3.out;rw[dk.out] at ge;refine cm ge ?_;exact avp),G);exact zsq
theorem aeh (hl:Z4 (s[k].toNat:Int)=false)(hd:Pz (s[k].toNat:Int)=false)(ag:(((s[k].toNat:Nat):Int)==39)=true)(U:rdStr s k=.bad er p) :
  NK 68 #[ND s,Nr (k:Int)] w (SA k (.bad er p) w):=by
 have z:=kk (∀{G}(h:G:=by
 have ge:=ZH s k bB ae E;rw[dk.out] at ge;refine cm ge ?_;exact avp),G);exact zsq
theorem ace (hl:Z4 (s[k].toNat:Int)=false)(hd:Pz (s[k].toNat:Int)=false)(ag:(((s[k].toNat:Nat):Int)==39)=false)(U:Uu bH s k=.bad er p) :
  NK 68 #[ND s,Nr (k:Int)] w (SA k (.bad er p) w):=by
 have z:=kk (∀{G}(h:G:=by
 have z:=kk (∀{G}(h:G:=by
 clear hg;exact avp),G);exact aCF),G);exact zsq
end
theorem agu (bf bH:List NR)(s:NR)(k:Nat)(w:Ny)(ae:s.size<=3000)(E:k<s.size)(dz:Lists bf bH w) :
  NK 68 #[ND s,Nr (k:Int)] w (SA k (UR bf bH s k) w):=by
 have eX:=aji s k E;have D:=Wn s[k] 39;unfold UR;rw[eX]
 cases hl:Z4 (s[k].toNat:Int)
 ·rw[if_neg Oq]
  cases hd:Pz (s[k].toNat:Int)
  ·rw[if_neg Oq]
   by_cases ag:s[k]=39
   ·rw[if_pos ag];have eK:(((s[k].toNat:Nat):Int)==39)=true:=by rw[ag];rfl
    cases U:rdStr s k with
    | tok kd tx n e=>exact agt bf bH s k kd n tx e w ae E dz hl hd eK U
    | bad er p=>exact aeh bf bH s k er p w ae E dz hl hd eK U
   ·rw[if_neg ag];have eK:(((s[k].toNat:Nat):Int)==39)=false:=by rw[show (39:Int)=(((39:UInt8).toNat:Nat):Int) from rfl,D];simp[ag]
    cases U:Uu bH s k with
    | tok kd tx n e=>exact aef bf bH s k kd n tx e w ae E dz hl hd eK U
    | bad er p=>exact ace bf bH s k er p w ae E dz hl hd eK U
  ·rw[if_pos rfl]
   cases U:rdNum s k with
   | tok kd tx n e=>exact ags bf bH s k kd n tx e w ae E dz hl hd U
   | bad er p=>exact aeg bf bH s k er p w ae E dz hl hd U
 ·rw[if_pos rfl]
  cases U:Ti bf s k with
  | tok kd tx n e=>exact aee bf bH s k kd n tx e w ae E dz hl U
  | bad er p=>exact acd bf bH s k er p w ae E dz hl U
structure Tk where
 kd:Int
 tx:NR
 n:Int
 pl:Nat
inductive TR where
 | ok (l:List Tk)
 | bad (er:Int) (p:Nat)
def Tf (bf bH:List NR)(s:NR)(i:Nat)(be:List Tk):TR:=
 if h:i<s.size then
  match UR bf bH s i with
  | .tok kd tx n e=>if O:i<e then Tf bf bH s (Oo QN s e) (be++[⟨kd,tx,n,i⟩]) else .bad 0 0
  | .bad er p=>.bad er p
 else .ok (be++[⟨6,⟨#[]⟩,0,s.size⟩])
termination_by s.size - i
decreasing_by
 have:=Ug QN s e;omega
section
variable (bf bH:List NR) (s:NR) (i:Nat) (be:List Tk)
include bf bH s i be
theorem Xu (h:¬ i<s.size):Tf bf bH s i be=.ok (be++[⟨6,⟨#[]⟩,0,s.size⟩]):=by rw[Tf,dif_neg h]
theorem YX (er:Int)(p:Nat)(h:i<s.size)(U:UR bf bH s i=.bad er p):Tf bf bH s i be=.bad er p:=by rw[Tf,dif_pos h,U]
theorem QJ (kd n:Int)(tx:NR)(e:Nat)(h:i<s.size)(U:UR bf bH s i=.tok kd tx n e)(au:i<e):Tf bf bH s i be=Tf bf bH s (Oo QN s e) (be++[⟨kd,tx,n,i⟩]):=by
 conv=>lhs;rw[Tf]
 rw[dif_pos h,U];simp only;rw[dif_pos au]
end
theorem agC (s:NR):∀ n i said l e,s.size - i=n->Vb s i said=.ok l e->i<e/\e<=s.size/\l.length<=said.length+(s.size - i):=by
 intro n
 induction n using Nat.strongRecOn with
 | ind n bR=>
  intro i said l e aA h
  by_cases aQ:i<s.size
  ·by_cases c1:bt s i=39
   ·rw[abA s i said aQ c1] at h;cases h;exact⟨by omega,by omega,by omega⟩
   ·by_cases c2:bt s i=10
    ·rw[ajj s i said aQ c2] at h;cases h
    ·by_cases c3:bt s i=92
     ·by_cases h1:i+1<s.size
      ·
       cases aV:esc (bt s (i+1)) with
       | none=>rw[Wp s i said aQ c3 (fun _=>aV)] at h;cases h
       | some m=>
        rw[agp s i said m aQ c3 h1 aV] at h;have:=bR (s.size - (i+2)) Nw (i+2) _ l e rfl h;rw[List.length_append,List.length_singleton] at this;omega
      ·rw[Wp s i said aQ c3 (fun hh=>absurd hh h1)] at h;cases h
     ·rw[abC s i said aQ c1 c2 c3] at h;have:=bR (s.size - (i+1)) Nw (i+1) _ l e rfl h;rw[List.length_append,List.length_singleton] at this;omega
  ·rw[agr s i said aQ] at h;cases h
theorem YL (bf bH:List NR)(s:NR)(k:Nat)(kd n:Int)(tx:NR)(e:Nat)(E:k<s.size)(hg:∀ g ∈ bH,1<=g.size)
  (h:UR bf bH s k=.tok kd tx n e):k<e/\e<=s.size:=by
 have eX:=aji s k E;unfold UR at h;rw[eX] at h
 split at h
 ·rename_i hl
  have IG:U7 (s[k].toNat:Int)=true:=by unfold U7;rw[hl];rfl
  have h1:=Xl U7 s k E IG;have O:=Ug U7 s (k+1);have ax:=RZ U7 s k Nw;unfold Ti at h
  split at h
  ·
   cases h;omega
  ·split at h
   ·
    cases h
   ·
    cases h;omega
 ·split at h
  ·rename_i hd
   have h1:=Xl Pz s k E hd;have O:=Ug Pz s (k+1);have ax:=RZ Pz s k Nw;unfold rdNum at h
   split at h
   ·
    cases h
   ·split at h
    ·
     cases h
    ·split at h
     ·
      cases h
     ·
      cases h;omega
  ·split at h
   ·unfold rdStr at h
    cases U:Vb s (k+1) [] with
    | ok said hY=>
     rw[U] at h;simp only at h;have D:=agC s _ (k+1) [] said hY rfl U
     split at h
     ·
      cases h
     ·
      cases h;omega
    | bad p=>rw[U] at h;cases h
   ·unfold Uu at h
    cases aG:bH.find? (fun g=>aeH (s.extract k s.size) g) with
    | none=>rw[aG] at h;cases h
    | some g=>
     rw[aG] at h;obtain⟨_,_,_,au⟩:=Rd.tok.inj h;have aV:=List.mem_of_find?_eq_some aG;have al:=List.find?_some aG;have h1:=hg g aV;simp only[aeH,Bool.and_eq_true,decide_eq_true_eq] at al;have aJ:=extract_size s k s.size Nw OH;omega
inductive Tr where
 | mk (kd:Int) (tx:NR) (n:Int) (kids:List Tr)
def Tr.kd:Tr->Int | .mk k _ _ _=>k
def Tr.tx:Tr->NR | .mk _ t _ _=>t
def Tr.n:Tr->Int | .mk _ _ n _=>n
def Tr.kids:Tr->List Tr | .mk _ _ _ l=>l
inductive PR (α:Type) where
 | ok (x:α) (i:Nat)
 | bad (er:Int) (p:Nat)
 | out
def PR.bind {α β:Type}:PR α->(α->Nat->PR β)->PR β
 | .ok x i,f=>f x i
 | .bad er p,_=>.bad er p
 | .out,_=>.out
abbrev NC:NR:=⟨#[]⟩
abbrev TI:NR:=⟨#[118,97,114]⟩
abbrev UH:NR:=⟨#[108,101,116]⟩
abbrev QB:NR:=⟨#[99,111,110,115,116]⟩
abbrev Ol:NR:=⟨#[102,117,110,99,116,105,111,110]⟩
abbrev tIf:NR:=⟨#[105,102]⟩
abbrev aeM:NR:=⟨#[101,108,115,101]⟩
abbrev Ux:NR:=⟨#[119,104,105,108,101]⟩
abbrev WJ:NR:=⟨#[119,105,116,104]⟩
abbrev Vf:NR:=⟨#[114,101,116,117,114,110]⟩
abbrev Y2:NR:=⟨#[116,104,114,111,119]⟩
abbrev ZL:NR:=⟨#[116,114,121]⟩
abbrev Uy:NR:=⟨#[99,97,116,99,104]⟩
abbrev QG:NR:=⟨#[102,105,110,97,108,108,121]⟩
abbrev apd:NR:=⟨#[116,121,112,101,111,102]⟩
abbrev ape:NR:=⟨#[100,101,108,101,116,101]⟩
abbrev aaB:NR:=⟨#[116,114,117,101]⟩
abbrev XY:NR:=⟨#[102,97,108,115,101]⟩
abbrev aix:NR:=⟨#[110,117,108,108]⟩
abbrev atn:NR:=⟨#[117,110,100,101,102,105,110,101,100]⟩
abbrev Qi:NR:=⟨#[40]⟩
abbrev RJ:NR:=⟨#[41]⟩
abbrev OV:NR:=⟨#[123]⟩
abbrev Vg:NR:=⟨#[125]⟩
abbrev O5:NR:=⟨#[59]⟩
abbrev aaC:NR:=⟨#[44]⟩
abbrev ac3:NR:=⟨#[58]⟩
abbrev apf:NR:=⟨#[46]⟩
abbrev tEq:NR:=⟨#[61]⟩
abbrev tOr:NR:=⟨#[124,124]⟩
abbrev aDU:NR:=⟨#[38,38]⟩
abbrev axv:NR:=⟨#[61,61,61]⟩
abbrev axw:NR:=⟨#[60]⟩
abbrev aDV:NR:=⟨#[43]⟩
abbrev aDW:NR:=⟨#[45]⟩
abbrev ato:NR:=⟨#[42]⟩
abbrev aDX:NR:=⟨#[33]⟩
abbrev UF:NR:=⟨#[115,116,114,105,99,116]⟩
abbrev ajG:NR:=⟨#[117,115,101,32,115,116,114,105,99,116]⟩
structure Sg where
 tx:NR
 kd:Int
 parts:Int
 str:Int
def sgs:List Sg:=[⟨tOr,25,2,2⟩,⟨aDU,26,2,3⟩,⟨axv,27,2,4⟩,⟨axw,28,2,5⟩,⟨aDV,29,2,6⟩,⟨aDW,30,2,6⟩,⟨ato,31,2,7⟩,⟨aDX,32,1,8⟩,⟨apd,33,1,8⟩,⟨ape,34,1,8⟩,⟨aaB,19,0,10⟩,⟨XY,20,0,10⟩,⟨aix,21,0,10⟩,⟨atn,22,0,10⟩]
def hds:List (NR × Int):=[(TI,2),(UH,3),(QB,4),(tIf,7),(Ux,8),(WJ,9),(Vf,10),(Y2,11)]
def SH:List (NR × Nat):=[(TI,0),(UH,0),(QB,0),(Ol,1),(OV,2),(O5,3),(tIf,4),(Ux,5),(WJ,5),(Vf,6),(Y2,6),(ZL,7)]
def Rf:List (NR × Nat):=[(Qi,0),(OV,1),(Ol,2)]
def PZ {β:Type}(l:List (NR × β))(s:NR):Option β:=(l.find? (fun e=>decide (s=e.1))).map (·.2)
def Yp (s:NR):Option Sg:=sgs.find? (fun e=>decide (s=e.tx))
def YR (k:Int)(s:NR):Option Sg:=(Yp s).filter (fun e=>e.parts==k)
def PD (s:NR):Int:=(PZ hds s).getD 0
section
variable (l:List Tk)
def Ox (i:Nat):Tk:=l.getD i ⟨6,NC,0,0⟩
def fx (i:Nat):NR:=if (Ox l i).kd==2||(Ox l i).kd==5 then (Ox l i).tx else NC
def WB {α:Type}(er:Int)(i:Nat):PR α:=.bad er (Ox l i).pl
def OD (s:NR)(i:Nat):PR Unit:=if fx l i=s then .ok () (i+1) else WB l 3 i
def nameP (i:Nat):PR NR:=if (Ox l i).kd=1 then .ok (Ox l i).tx (i+1) else WB l 3 i
def OL (f:Nat->Nat->PR Tr)(d i:Nat):PR Tr:=if d=30 then WB l 4 i else f (d+1) i
def isName (i:Nat):Bool:=(Ox l i).kd==1
def isVal (i:Nat):Bool:=(Ox l i).kd==1||(Ox l i).kd==3||(Ox l i).kd==4||(PZ Rf (fx l i)).isSome||((Yp (fx l i)).filter (fun e=>decide (e.parts<2))).isSome
structure Rq where
 fuel:Nat
 st:Nat->Nat->PR Tr
 vl:Nat->Nat->PR Tr
 pr:Int->Nat->Nat->PR Tr
 sg:Nat->Nat->PR Tr
def axx:Rq:=⟨0,fun _ _=>.out,fun _ _=>.out,fun _ _ _=>.out,fun _ _=>.out⟩
def Ry (shut:NR)(begins:Nat->Bool)(part:Nat->PR Tr):Nat->List Tr->Nat->PR (List Tr)
 | 0,_,_=>.out
 | k+1,be,i=>if be.length=8/\begins i=true then WB l 4 i else
  (part i).bind fun t a7=>if fx l a7=shut then .ok (be++[t]) (a7+1) else
   (OD l aaC a7).bind fun _ i2=>Ry shut begins part k (be++[t]) i2
def Vh (opn shut:NR)(begins:Nat->Bool)(part:Nat->PR Tr)(k i:Nat):PR (List Tr):=
 (OD l opn i).bind fun _ a7=>if fx l a7=shut then .ok [] (a7+1) else Ry l shut begins part k [] a7
def TL:Tr->Tr
 | .mk kd tx n (.mk bV nh bT (.mk dB t2 cY rB::bQ)::r)=>.mk kd (if bV=15/\dB=18/\t2=ajG then UF else tx) n (.mk bV nh bT (.mk dB t2 cY rB::bQ)::r)
 | t=>t
def PV (F:Rq)(d:Nat):Nat->List Tr->Nat->PR (List Tr)
 | 0,_,_=>.out
 | k+1,be,i=>if fx l i=Vg then .ok be (i+1) else
  (OL l F.st d i).bind fun t a7=>PV F d k (be++[t]) a7
def Pj (F:Rq)(d i:Nat):PR Tr:=
 (OD l OV i).bind fun _ a7=>(PV l F d F.fuel [] a7).bind fun am i2=>.ok (.mk 6 NC 0 am) i2
def TS (i:Nat):PR Tr:=(nameP l i).bind fun s a7=>.ok (.mk 23 s 0 []) a7
def Rh (F:Rq)(i:Nat):PR Tr:=(Vh l Qi RJ (isName l) (TS l) F.fuel i).bind fun am a7=>.ok (.mk 40 NC 0 am) a7
def aeN (F:Rq)(d i:Nat):PR Tr:=OL l F.vl d i
def VA (F:Rq)(d i:Nat):PR Tr:=
 (nameP l i).bind fun s a7=>(OD l ac3 a7).bind fun _ i2=>(OL l F.vl d i2).bind fun t i3=>.ok (.mk 39 s 0 [t]) i3
def Tj (F:Rq)(d i:Nat):PR Tr:=
 (OD l Qi i).bind fun _ a7=>(OL l F.vl d a7).bind fun t i2=>(OD l RJ i2).bind fun _ i3=>.ok t i3
def UJ (F:Rq)(d i:Nat):PR Tr:=
 (Vh l OV Vg (isName l) (VA l F d) F.fuel i).bind fun am a7=>.ok (.mk 38 NC 0 am) a7
def QO (F:Rq)(kd:Int)(s:NR)(d i:Nat):PR Tr:=
 (Rh l F i).bind fun ps a7=>(Pj l F d a7).bind fun b i2=>.ok (.mk kd s 0 [ps,TL b]) i2
def UK (F:Rq)(d i:Nat):PR Tr:=
 (OD l Ol i).bind fun _ a7=>if isName l a7=true then (nameP l a7).bind fun s i2=>QO l F 37 s d i2 else QO l F 37 NC d a7
def Yq (F:Rq)(d i:Nat):PR Tr:=
 (OD l Ol i).bind fun _ a7=>(nameP l a7).bind fun s i2=>QO l F 5 s d i2
def Uz (F:Rq)(d i:Nat):PR Tr:=
 match PZ Rf (fx l i) with
 | some 0=>Tj l F d i
 | some 1=>UJ l F d i
 | some _=>UK l F d i
 | none=>
  match YR 0 (fx l i) with
  | some s=>.ok (.mk s.kd NC 0 []) (i+1)
  | none=>
   if (Ox l i).kd=1 then .ok (.mk 23 (Ox l i).tx 0 []) (i+1)
   else if (Ox l i).kd=4 then .ok (.mk 18 (Ox l i).tx 0 []) (i+1)
   else if (Ox l i).kd=3 then .ok (.mk 17 NC (Ox l i).n []) (i+1)
   else WB l 3 i
def QS (F:Rq)(d:Nat):Nat->Tr->Nat->PR Tr
 | 0,_,_=>.out
 | k+1,t,i=>
  if fx l i=apf then (nameP l (i+1)).bind fun s a7=>QS F d k (.mk 36 s 0 [t]) a7
  else if fx l i=Qi then (Vh l Qi RJ (isVal l) (aeN l F d) F.fuel i).bind fun am a7=>QS F d k (.mk 35 NC 0 (t::am)) a7
  else .ok t i
def TT (F:Rq)(d i:Nat):PR Tr:=(Uz l F d i).bind fun t a7=>QS l F d F.fuel t a7
def Tn (F:Rq)(d i:Nat):PR Tr:=
 match YR 1 (fx l i) with
 | some s=>(OL l F.sg d (i+1)).bind fun t a7=>.ok (.mk s.kd NC 0 [t]) a7
 | none=>TT l F d i
def Si (F:Rq)(least:Int)(d:Nat):Nat->Tr->Nat->PR Tr
 | 0,_,_=>.out
 | k+1,t,i=>
  match YR 2 (fx l i) with
  | none=>.ok t i
  | some s=>if s.str<least then .ok t i else (F.pr (s.str+1) d (i+1)).bind fun u a7=>Si F least d k (.mk s.kd NC 0 [t,u]) a7
def WT (F:Rq)(least:Int)(d i:Nat):PR Tr:=(F.sg d i).bind fun t a7=>Si l F least d F.fuel t a7
def UY (F:Rq)(d i:Nat):PR Tr:=
 (F.pr 2 d i).bind fun t a7=>if fx l a7=tEq then
   (if t.kd=23\/t.kd=36 then (OL l F.vl d (a7+1)).bind fun v i2=>.ok (.mk 24 NC 0 [t,v]) i2 else WB l 1 i)
  else .ok t a7
def Zz (F:Rq)(d i:Nat):PR Tr:=
 (nameP l (i+1)).bind fun s a7=>
  if PD (Ox l i).tx=4/\¬ fx l a7=tEq then WB l 3 a7
  else if fx l a7=tEq then (OL l F.vl d (a7+1)).bind fun v i2=>(OD l O5 i2).bind fun _ i3=>.ok (.mk (PD (Ox l i).tx) s 0 [v]) i3
  else (OD l O5 a7).bind fun _ i2=>.ok (.mk (PD (Ox l i).tx) s 0 []) i2
def RI (F:Rq)(d i:Nat):PR Tr:=
 (Tj l F d (i+1)).bind fun v a7=>(OL l F.st d a7).bind fun s i2=>.ok (.mk (PD (Ox l i).tx) NC 0 [v,s]) i2
def UL (F:Rq)(d i:Nat):PR Tr:=
 (Tj l F d (i+1)).bind fun v a7=>(OL l F.st d a7).bind fun s i2=>
  if fx l i2=aeM then (OL l F.st d (i2+1)).bind fun s2 i3=>.ok (.mk (PD (Ox l i).tx) NC 0 [v,s,s2]) i3
  else .ok (.mk (PD (Ox l i).tx) NC 0 [v,s]) i2
def Vj (F:Rq)(d i:Nat):PR Tr:=
 if PD (Ox l i).tx=11\/¬ fx l (i+1)=O5 then (OL l F.vl d (i+1)).bind fun v a7=>(OD l O5 a7).bind fun _ i2=>.ok (.mk (PD (Ox l i).tx) NC 0 [v]) i2
 else (OD l O5 (i+1)).bind fun _ i2=>.ok (.mk (PD (Ox l i).tx) NC 0 []) i2
def Y3 (F:Rq)(d i:Nat):PR (List Tr):=
 if fx l i=Uy then (OD l Qi (i+1)).bind fun _ a7=>(nameP l a7).bind fun s i2=>(OD l RJ i2).bind fun _ i3=>(Pj l F d i3).bind fun b i4=>.ok [.mk 13 s 0 [b]] i4
 else .ok [] i
def UZ (F:Rq)(d i:Nat):PR (List Tr):=
 if fx l i=QG then (Pj l F d (i+1)).bind fun b a7=>.ok [.mk 14 NC 0 [b]] a7
 else .ok [] i
def U0 (F:Rq)(d i:Nat):PR Tr:=
 (OD l ZL i).bind fun _ i0=>(Pj l F d i0).bind fun b a7=>(Y3 l F d a7).bind fun c i2=>(UZ l F d i2).bind fun f i3=>
  if c.length+f.length=0 then WB l 3 i3 else .ok (.mk 12 NC 0 (b::(c++f))) i3
def ZA (F:Rq)(d i:Nat):PR Tr:=(OL l F.vl d i).bind fun v a7=>(OD l O5 a7).bind fun _ i2=>.ok (.mk 15 NC 0 [v]) i2
def Yr (F:Rq)(d:Nat):Nat->Nat->PR Tr
 | 0=>Zz l F d
 | 1=>Yq l F d
 | 2=>Pj l F d
 | 3=>fun i=>(OD l O5 i).bind fun _ a7=>.ok (.mk 16 NC 0 []) a7
 | 4=>UL l F d
 | 5=>RI l F d
 | 6=>Vj l F d
 | _=>U0 l F d
def Qv (F:Rq)(d i:Nat):PR Tr:=
 match PZ SH (fx l i) with
 | some q=>Yr l F d q i
 | none=>ZA l F d i
def fns:Nat->Rq
 | 0=>axx
 | k+1=>⟨k,Qv l (fns k),UY l (fns k),WT l (fns k),Tn l (fns k)⟩
def Qj (F:Rq):Nat->List Tr->Nat->PR (List Tr)
 | 0,_,_=>.out
 | k+1,be,i=>if (Ox l i).kd=6 then .ok be i else
  (OL l F.st 0 i).bind fun t a7=>Qj F k (be++[t]) a7
def Ui (F:Rq):PR Tr:=(Qj l F F.fuel [] 0).bind fun am i=>.ok (TL (.mk 1 NC 0 am)) i
end
mutual
def Tr.count:Tr->Nat
 | .mk _ _ _ ks=>1+Tr.counts ks
def Tr.counts:List Tr->Nat
 | []=>0
 | t::am=>t.count+Tr.counts am
end
def Nx {α:Type}(q:Prop)(L a:Nat)(r:PR α):Prop:=(q->r≠.out)/\∀ x j,r=.ok x j->a<=j/\j<L
section
variable {α:Type} {q:Prop}
include α q
theorem Nx.ok {L a i:Nat}{x:α}(h1:a<=i)(O:i<L):Nx q L a (.ok x i):=
 ⟨fun _ h=>by (cases h),fun _ _ h=>by cases h;exact⟨h1,O⟩⟩
theorem Nx.bad {L a:Nat}{er:Int}{p:Nat}:Nx (α:=α) q L a (.bad er p):=
 ⟨fun _ h=>by (cases h),fun _ _ h=>by (cases h)⟩
theorem Nx.WB {L a:Nat}{l:List Tk}{er:Int}{i:Nat}:Nx (α:=α) q L a (WB l er i):=Nx.bad
end
theorem Nx.bind {α β:Type}{q:Prop}{L a b:Nat}{r:PR α}{f:α->Nat->PR β}(h:Nx q L a r)(aG:∀ x j,a<=j->j<L->Nx q L b (f x j)):Nx q L b (r.bind f):=by
 cases r with
 | ok x j=>exact aG x j (h.2 x j rfl).1 (h.2 x j rfl).2
 | bad er p=>exact Nx.bad
 | out=>exact⟨fun ag=>absurd rfl (h.1 ag),fun _ _ h=>by cases h⟩
theorem Nx.imp {α:Type}{q q':Prop}{L a:Nat}{r:PR α}(h:Nx q L a r)(ag:q'->q):Nx q' L a r:=⟨fun x=>h.1 (ag x),h.2⟩
theorem Nx.le {α:Type}{q:Prop}{L a b:Nat}{r:PR α}(h:Nx q L a r)(D:b<=a):Nx q L b r:=⟨h.1,fun x j e=>⟨Nat.le_trans D (h.2 x j e).1,(h.2 x j e).2⟩⟩
def Ends (l:List Tk):Prop:=∀ i,i<l.length->((Ox l i).kd=6↔i+1=l.length)
section
variable {l:List Tk} (aI:Ends l)
include aI
theorem Ud {i:Nat}(ay:i<l.length)(h:(Ox l i).kd≠6):i+1<l.length:=by
 have:=mt (aI i ay).2 h;omega
theorem Vk {i:Nat}{s:NR}(ay:i<l.length)(h:fx l i=s)(ae:s≠NC):i+1<l.length:=by
 refine Ud aI ay fun cA=>ae ?_;rw[<-h,fx,cA];rfl
theorem alM {β:Type}{ks:List (NR × β)}{x:β}{i:Nat}(ay:i<l.length)(h:PZ ks (fx l i)=some x)(h0:PZ ks NC=none):i+1<l.length:=by
 refine Vk aI ay rfl fun h1=>?_;rw[h1,h0] at h;cases h
theorem Y4 {k:Int}{x:Sg}{i:Nat}(ay:i<l.length)(h:YR k (fx l i)=some x):i+1<l.length:=by
 refine Vk aI ay rfl fun h1=>?_;rw[h1] at h;have:YR k NC=none:=by
  have:Yp NC=none:=by decide
  simp[YR,this]
 rw[this] at h;cases h
theorem P5 {q:Prop}{s:NR}{i:Nat}(ay:i<l.length)(ae:s≠NC):Nx q l.length (i+1) (OD l s i):=by
 unfold OD
 split
 ·exact Nx.ok OH (Vk aI ay ‹_› ae)
 ·exact Nx.WB
theorem Uj {q:Prop}{i:Nat}(ay:i<l.length):Nx q l.length (i+1) (nameP l i):=by
 unfold nameP
 split
 ·rename_i h
  exact Nx.ok OH (Ud aI ay (by rw[h];decide))
 ·exact Nx.WB
omit aI in
theorem Qk {q:Prop}{f:Nat->Nat->PR Tr}{d i:Nat}(h:Nx q l.length (i+1) (f (d+1) i)):Nx q l.length (i+1) (OL l f d i):=by
 unfold OL
 split
 ·exact Nx.WB
 ·exact h
theorem aeR {q:Prop}{shut:NR}{begins:Nat->Bool}{part:Nat->PR Tr}{I:Nat}(ae:shut≠NC)(al:∀ i,I<=i->i<l.length->Nx q l.length (i+1) (part i)) :
  ∀ k be i,I<=i->i<l.length->Nx (q/\l.length - i<k) l.length (i+1) (Ry l shut begins part k be i):=by
 intro k
 induction k with
 | zero=>intro be i _ _;exact⟨fun h=>absurd h.2 Nw,fun _ _ h=>by (cases h)⟩
 | succ k bR=>
  intro be i oB ay;unfold Ry
  split
  ·exact Nx.WB
  ·refine Nx.bind ((al i oB ay).imp And.left) fun t j h1 O=>?_
   split
   ·exact Nx.ok Nw (Vk aI O ‹_› ae)
   ·refine Nx.bind (P5 aI O NH) fun _ cK ax aU=>?_;exact((bR _ cK Nw aU).le Nw).imp fun h=>⟨h.1,by omega⟩
theorem Yt {q:Prop}{opn shut:NR}{begins:Nat->Bool}{part:Nat->PR Tr}{k i:Nat}(ay:i<l.length)(aM:opn≠NC)(ae:shut≠NC)(ag:q->l.length - i<=k)(al:∀ j,i<j->j<l.length->Nx q l.length (j+1) (part j)) :
  Nx q l.length (i+1) (Vh l opn shut begins part k i):=by
 unfold Vh;refine Nx.bind (P5 aI ay aM) fun _ j h1 O=>?_
 split
 ·exact Nx.ok Nw (Vk aI O ‹_› ae)
 ·exact((aeR aI ae (I:=i+1) (fun j ax aU=>al j ax aU) k [] j h1 O).le Nw).imp fun h=>⟨h,by have:=ag h;omega⟩
structure FNx (l:List Tk)(k:Nat)(F:Rq):Prop where
 fuel:F.fuel=k - 1
 st:∀ d i,i<l.length->Nx (8 * (l.length - i)+3<k) l.length (i+1) (F.st d i)
 vl:∀ d i,i<l.length->Nx (8 * (l.length - i)+2<k) l.length (i+1) (F.vl d i)
 pr:∀ b d i,i<l.length->Nx (8 * (l.length - i)+1<k) l.length (i+1) (F.pr b d i)
 sg:∀ d i,i<l.length->Nx (8 * (l.length - i)<k) l.length (i+1) (F.sg d i)
variable {k:Nat} {F:Rq} (ak:FNx l k F)
include ak
theorem ada {q:Prop}{I:Nat}(ag:q->8 * (l.length - I)<=k+4):∀ n d be i,I<i->i<l.length->Nx (q/\l.length - i<n) l.length (i+1) (PV l F d n be i):=by
 intro n
 induction n with
 | zero=>intro d be i _ _;exact⟨fun h=>absurd h.2 Nw,fun _ _ h=>by (cases h)⟩
 | succ n bR=>
  intro d be i oB ay;unfold PV
  split
  ·exact Nx.ok Nw (Vk aI ay ‹_› NH)
  ·refine Nx.bind (Qk ((ak.st (d+1) i ay).imp fun h=>?_)) fun t j h1 O=>((bR d _ j Nw O).le Nw).imp fun h=>⟨h.1,by omega⟩;have:=ag h.1;omega
theorem VD {q:Prop}{d i:Nat}(ay:i<l.length)(ag:q->8 * (l.length - i)<=k+4):Nx q l.length (i+1) (Pj l F d i):=by
 unfold Pj;refine Nx.bind (P5 aI ay NH) fun _ j h1 O=>?_;refine Nx.bind (((ada aI ak ag F.fuel d [] j Nw O).le (b:=j) Nw).imp fun h=>⟨h,?_⟩) fun am cK ax aU=>Nx.ok Nw aU;have:=ag h;rw[ak.fuel];omega
omit ak in
theorem acp {q:Prop}{i:Nat}(ay:i<l.length):Nx q l.length (i+1) (TS l i):=by
 unfold TS;exact Nx.bind (Uj aI ay) fun s j h1 O=>Nx.ok h1 O
theorem agO {q:Prop}{i:Nat}(ay:i<l.length)(ag:q->8 * (l.length - i)<=k+4):Nx q l.length (i+1) (Rh l F i):=by
 unfold Rh;refine Nx.bind (Yt aI ay NH NH (fun h=>?_) fun j _ h=>acp aI h) fun am j h1 O=>Nx.ok h1 O;have:=ag h;rw[ak.fuel];omega
omit aI in
theorem adb {q:Prop}{d i:Nat}(ay:i<l.length)(ag:q->8 * (l.length - i)+2<k):Nx q l.length (i+1) (aeN l F d i):=Qk ((ak.vl _ _ ay).imp ag)
section
variable {q:Prop} {d i:Nat} (ay:i<l.length) (ag:q->8 * (l.length - i)<=k+4)
include q d i ay ag
theorem aeS:Nx q l.length (i+1) (VA l F d i):=by
 unfold VA;refine Nx.bind (Uj aI ay) fun s j h1 O=>?_;refine Nx.bind (P5 aI O NH) fun _ cK ax aU=>?_;exact Nx.bind (Qk ((ak.vl _ _ aU).imp fun h=>by have:=ag h;omega)) fun t h' bN cA=>Nx.ok Nw cA
theorem Y5:Nx q l.length (i+1) (Tj l F d i):=by
 unfold Tj;refine Nx.bind (P5 aI ay NH) fun _ cK ax aU=>?_;refine Nx.bind (Qk ((ak.vl _ _ aU).imp fun h=>by have:=ag h;omega)) fun t h' bN cA=>?_
 exact Nx.bind (P5 aI cA NH) fun _ EI j1 hI=>Nx.ok Nw hI
theorem agP:Nx q l.length (i+1) (UJ l F d i):=by
 unfold UJ;refine Nx.bind (Yt aI ay NH NH (fun h=>?_) fun j h1 h=>aeS aI ak h fun hh=>by have:=ag hh;omega) fun am j h1 O=>Nx.ok h1 O
 have:=ag h;rw[ak.fuel];omega
end
theorem WV {q:Prop}{kd:Int}{s:NR}{d i:Nat}(ay:i<l.length)(ag:q->8 * (l.length - i)<=k+4):Nx q l.length (i+1) (QO l F kd s d i):=by
 unfold QO;refine Nx.bind (agO aI ak ay ag) fun ps j h1 O=>?_;exact Nx.bind (VD aI ak O fun h=>by have:=ag h;omega) fun b cK ax aU=>Nx.ok Nw aU
section
variable {q:Prop} {d i:Nat} (ay:i<l.length) (ag:q->8 * (l.length - i)<=k+4)
include q d i ay ag
theorem agQ:Nx q l.length (i+1) (UK l F d i):=by
 unfold UK;refine Nx.bind (P5 aI ay NH) fun _ j h1 O=>?_
 split
 ·refine Nx.bind (Uj aI O) fun s cK ax aU=>?_;exact(WV aI ak aU fun h=>by have:=ag h;omega).le Nw
 ·exact(WV aI ak O fun h=>by have:=ag h;omega).le Nw
theorem alN:Nx q l.length (i+1) (Yq l F d i):=by
 unfold Yq;refine Nx.bind (P5 aI ay NH) fun _ j h1 O=>?_;refine Nx.bind (Uj aI O) fun s cK ax aU=>?_;exact(WV aI ak aU fun h=>by have:=ag h;omega).le Nw
theorem ajL:Nx q l.length (i+1) (Uz l F d i):=by
 unfold Uz
 split
 ·exact Y5 aI ak ay ag
 ·exact agP aI ak ay ag
 ·exact agQ aI ak ay ag
 ·split
  ·rename_i s ae
   exact Nx.ok OH (Y4 aI ay ae)
  ·split
   ·rename_i h;exact Nx.ok OH (Ud aI ay (by rw[h];decide))
   ·split
    ·rename_i h;exact Nx.ok OH (Ud aI ay (by rw[h];decide))
    ·split
     ·rename_i h;exact Nx.ok OH (Ud aI ay (by rw[h];decide))
     ·exact Nx.WB
end
theorem ade {q:Prop}{I:Nat}(ag:q->8 * (l.length - I)<=k+4):∀ n d t i,I<i->i<l.length->Nx (q/\l.length - i<n) l.length i (QS l F d n t i):=by
 intro n
 induction n with
 | zero=>intro d be i _ _;exact⟨fun h=>absurd h.2 Nw,fun _ _ h=>by (cases h)⟩
 | succ n bR=>
  intro d t i oB ay;unfold QS
  split
  ·have h0:=Vk aI ay ‹_› NH;exact Nx.bind (Uj aI h0) fun s j h1 O=>((bR d _ j Nw O).le Nw).imp fun h=>⟨h.1,by omega⟩
  ·split
   ·refine Nx.bind (Yt aI ay NH NH (fun h=>?_) fun j h1 h=>adb ak h fun hh=>by have:=ag hh.1;omega) fun am j h1 O=>((bR d _ j Nw O).le Nw).imp fun h=>⟨h.1,by omega⟩
    have:=ag h.1;rw[ak.fuel];omega
   ·exact Nx.ok OH ay
theorem ajM {q:Prop}{d i:Nat}(ay:i<l.length)(ag:q->8 * (l.length - i)<=k+4):Nx q l.length (i+1) (TT l F d i):=by
 unfold TT;refine Nx.bind (ajL aI ak ay ag) fun t j h1 O=>((ade aI ak ag F.fuel d t j Nw O).le Nw).imp fun h=>⟨h,?_⟩;have:=ag h;rw[ak.fuel];omega
theorem agR {d i:Nat}(ay:i<l.length):Nx (8 * (l.length - i)<k+1) l.length (i+1) (Tn l F d i):=by
 unfold Tn
 split
 ·rename_i s ae
  have h0:=Y4 aI ay ae;exact Nx.bind (Qk ((ak.sg _ _ h0).imp fun h=>by omega)) fun t j h1 O=>Nx.ok Nw O
 ·exact ajM aI ak ay fun h=>by omega
theorem aeT {q:Prop}{I:Nat}(ag:q->8 * (l.length - I)<=k+4):∀ n b d t i,I<i->i<l.length->Nx (q/\l.length - i<n) l.length i (Si l F b d n t i):=by
 intro n
 induction n with
 | zero=>intro b d be i _ _;exact⟨fun h=>absurd h.2 Nw,fun _ _ h=>by (cases h)⟩
 | succ n bR=>
  intro b d t i oB ay;unfold Si
  split
  ·exact Nx.ok OH ay
  ·rename_i s ae
   have h0:=Y4 aI ay ae
   split
   ·exact Nx.ok OH ay
   ·refine Nx.bind ((ak.pr _ _ _ h0).imp fun h=>?_) fun u j h1 O=>((bR b d _ j Nw O).le Nw).imp fun h=>⟨h.1,by omega⟩;have:=ag h.1;omega
theorem alO {b:Int}{d i:Nat}(ay:i<l.length):Nx (8 * (l.length - i)+1<k+1) l.length (i+1) (WT l F b d i):=by
 unfold WT;refine Nx.bind ((ak.sg _ _ ay).imp fun h=>by omega) fun t j h1 O=>((aeT aI ak (I:=i) (q:=8 * (l.length - i)+1<k+1) (fun h=>by omega) F.fuel b d t j Nw O).le Nw).imp fun h=>⟨h,?_⟩;rw[ak.fuel];omega
theorem ajN {d i:Nat}(ay:i<l.length):Nx (8 * (l.length - i)+2<k+1) l.length (i+1) (UY l F d i):=by
 unfold UY;refine Nx.bind ((ak.pr _ _ _ ay).imp fun h=>by omega) fun t j h1 O=>?_
 split
 ·have h0:=Vk aI O ‹_› NH
  split
  ·exact Nx.bind (Qk ((ak.vl _ _ h0).imp fun h=>by omega)) fun v cK ax aU=>Nx.ok Nw aU
  ·exact Nx.WB
 ·exact Nx.ok h1 O
theorem alP {q:Prop}{d i:Nat}(ay:i<l.length)(ag:q->8 * (l.length - i)+2<k):Nx q l.length (i+1) (ZA l F d i):=by
 unfold ZA;refine Nx.bind (Qk ((ak.vl _ _ ay).imp ag)) fun v j h1 O=>?_;exact Nx.bind (P5 aI O NH) fun _ cK ax aU=>Nx.ok Nw aU
section
variable {q:Prop} {d i:Nat} (ay:i+1<l.length) (ag:q->8 * (l.length - i)<=k+4)
include q d i ay ag
theorem alQ:Nx q l.length (i+1) (Zz l F d i):=by
 unfold Zz;refine Nx.bind (Uj aI ay) fun s j h1 O=>?_
 split
 ·exact Nx.WB
 ·split
  ·have h0:=Vk aI O ‹_› NH;refine Nx.bind (Qk ((ak.vl _ _ h0).imp fun h=>by have:=ag h;omega)) fun v cK ax aU=>?_
   exact Nx.bind (P5 aI aU NH) fun _ h' bN cA=>Nx.ok Nw cA
  ·exact Nx.bind (P5 aI O NH) fun _ h' bN cA=>Nx.ok Nw cA
theorem agS:Nx q l.length (i+1) (RI l F d i):=by
 unfold RI;refine Nx.bind (Y5 aI ak ay fun h=>by have:=ag h;omega) fun v j h1 O=>?_
 exact Nx.bind (Qk ((ak.st _ _ O).imp fun h=>by have:=ag h;omega)) fun v cK ax aU=>Nx.ok Nw aU
theorem agT:Nx q l.length (i+1) (UL l F d i):=by
 unfold UL;refine Nx.bind (Y5 aI ak ay fun h=>by have:=ag h;omega) fun v j h1 O=>?_
 refine Nx.bind (Qk ((ak.st _ _ O).imp fun h=>by have:=ag h;omega)) fun v cK ax aU=>?_
 split
 ·have h0:=Vk aI aU ‹_› NH;exact Nx.bind (Qk ((ak.st _ _ h0).imp fun h=>by have:=ag h;omega)) fun v h' bN cA=>Nx.ok Nw cA
 ·exact Nx.ok Nw aU
theorem agU:Nx q l.length (i+1) (Vj l F d i):=by
 unfold Vj
 split
 ·refine Nx.bind (Qk ((ak.vl _ _ ay).imp fun h=>by have:=ag h;omega)) fun v j h1 O=>?_
  exact Nx.bind (P5 aI O NH) fun _ cK ax aU=>Nx.ok Nw aU
 ·exact Nx.bind (P5 aI ay NH) fun _ cK ax aU=>Nx.ok Nw aU
end
section
variable {q:Prop} {d i:Nat} (ay:i<l.length) (ag:q->8 * (l.length - i)<=k+4)
include q d i ay ag
theorem ajO:Nx q l.length i (Y3 l F d i):=by
 unfold Y3
 split
 ·have h0:=Vk aI ay ‹_› NH;refine Nx.bind (P5 aI h0 NH) fun _ bW h1 O=>?_;refine Nx.bind (Uj aI O) fun _ cK ax aU=>?_;refine Nx.bind (P5 aI aU NH) fun _ h' bN cA=>?_;exact Nx.bind (VD aI ak cA fun h=>by have:=ag h;omega) fun b EI j1 hI=>Nx.ok Nw hI
 ·exact Nx.ok OH ay
theorem aeU:Nx q l.length i (UZ l F d i):=by
 unfold UZ
 split
 ·have h0:=Vk aI ay ‹_› NH;exact Nx.bind (VD aI ak h0 fun h=>by have:=ag h;omega) fun b EI j1 hI=>Nx.ok Nw hI
 ·exact Nx.ok OH ay
theorem aeV:Nx q l.length (i+1) (U0 l F d i):=by
 unfold U0;refine Nx.bind (P5 aI ay NH) fun _ Mt h h0=>?_;refine Nx.bind (VD aI ak h0 fun h=>by have:=ag h;omega) fun b bW h1 O=>?_
 refine Nx.bind (ajO aI ak O fun h=>by have:=ag h;omega) fun c cK ax aU=>?_
 refine Nx.bind (aeU aI ak aU fun h=>by have:=ag h;omega) fun f h' bN cA=>?_
 split
 ·exact Nx.WB
 ·exact Nx.ok Nw cA
end
theorem alR {q:Prop}{d i c:Nat}(ay:i+1<l.length)(ag:q->8 * (l.length - i)<=k+4):Nx q l.length (i+1) (Yr l F d c i):=by
 unfold Yr
 split
 ·exact alQ aI ak ay ag
 ·exact alN aI ak Nw ag
 ·exact VD aI ak Nw ag
 ·exact Nx.bind (P5 aI Nw NH) fun _ j h1 O=>Nx.ok h1 O
 ·exact agT aI ak ay ag
 ·exact agS aI ak ay ag
 ·exact agU aI ak ay ag
 ·exact aeV aI ak Nw ag
theorem abR {d i:Nat}(ay:i<l.length):Nx (8 * (l.length - i)+3<k+1) l.length (i+1) (Qv l F d i):=by
 unfold Qv
 split
 ·rename_i c ai
  exact alR aI ak (alM aI ay ai NH) fun h=>by omega
 ·exact alP aI ak ay fun h=>by omega
omit ak in
theorem agV:∀ k,FNx l k (fns l k):=by
 intro k
 induction k with
 | zero=>exact⟨rfl,fun _ _ _=>⟨fun h=>absurd h Nw,fun _ _ h=>by (cases h)⟩,fun _ _ _=>⟨fun h=>absurd h Nw,fun _ _ h=>by (cases h)⟩,fun _ _ _ _=>⟨fun h=>absurd h Nw,fun _ _ h=>by (cases h)⟩,fun _ _ _=>⟨fun h=>absurd h Nw,fun _ _ h=>by (cases h)⟩⟩
 | succ k bR=>exact⟨rfl,fun _ _ ay=>abR aI bR ay,fun _ _ ay=>ajN aI bR ay,fun _ _ _ ay=>alO aI bR ay,fun _ _ ay=>agR aI bR ay⟩
end
end Go.Proofs.YticfnaiehdpbmaaGreatDoor
