import Derived.Test.YticfnaiehdpbmaaGreatDoorAg21
import Derived.Test.YticfnaiehdpbmaaGreatDoorAg20
import Derived.Test.YticfnaiehdpbmaaGreatDoorAg17
import Derived.Lib.ItoaNum
set_option maxRecDepth 100000
set_option maxHeartbeats 8000000
set_option linter.unusedVariables false
namespace Go.Proofs.YticfnaiehdpbmaaGreatDoor
open Go.RowKit Go.Proofs.Tryz
theorem o0 {p:Prop}(h:p):p:=h
def need (kd:Int):Nat:=if kd=5\/kd=37\/kd=9 then 2 else if kd=13\/kd=24\/kd=34\/kd=35 then 1 else 0
def ar (kd:Int)(n:Nat):Nat:=if need kd<=n then 0 else 1
mutual
def Tr.ill:Tr->Nat
 | .mk kd _ _ ks=>ar kd ks.length+Tr.abS ks
def Tr.abS:List Tr->Nat
 | []=>0
 | t::am=>t.ill+Tr.abS am
end
theorem SN (kd:Int)(tx:NR)(n:Int)(ks:List Tr):(Tr.mk kd tx n ks).ill=ar kd ks.length+Tr.abS ks:=by rw[Tr.ill]
theorem alS (kd:Int):need kd<=2:=by
 unfold need
 split
 ·omega
 ·split <;> omega
theorem atr (kd:Int)(n:Nat)(h:2<=n):ar kd n=0:=by
 unfold ar;rw[if_pos (Nat.le_trans (alS kd) h)]
theorem VE:Tr.abS []=0:=by rw[Tr.abS]
theorem Q8 (t:Tr)(am:List Tr):Tr.abS (t::am)=t.ill+Tr.abS am:=by rw[Tr.abS]
theorem aeW:∀ (ks:List Tr),Tr.abS ks=0->∀ k ∈ ks,k.ill=0
 | [],_=>fun k E=>absurd E Oq
 | t::am,h=>fun k E=>by
  rw[Q8] at h
  rcases List.mem_cons.1 E with rfl|E
  ·omega
  ·exact aeW am Nw k E
theorem aaA (t:Tr)(h:t.ill=0):need t.kd<=t.kids.length/\∀ k ∈ t.kids,k.ill=0:=by
 cases t with
 | mk kd tx n ks=>
  rw[SN] at h;refine⟨?_,aeW ks Nw⟩;have h1:ar kd ks.length=0:=Nw;unfold ar at h1
  split at h1
  ·assumption
  ·omega
theorem Q9:∀ am:List Tr,(∀ u ∈ am,u.ill=0)->Tr.abS am=0
 | [],_=>VE
 | t::am,h=>by rw[Q8,h t (List.mem_cons_self ..),Q9 am (fun u aO=>h u (List.mem_cons_of_mem _ aO))]
theorem Qz.ill {cU dg:NR->Prop}{df:Int->Prop}{c:Nat}{t:Tr}(h:Qz cU dg df c t):t.ill=0:=by
 induction h with
 | agK _ bR=>exact bR
 | call _ _ _ bR lT=>rw[SN,Q8,bR,Q9 _ lT];rfl
 | decl E _ _ _ _ lT=>rw[SN,Q9 _ lT];rcases E with rfl|rfl|rfl <;> simp[ar,need]
 | give E _ _ _ lT=>rw[SN,Q9 _ lT];rcases E with rfl|rfl <;> simp[ar,need]
 | atm _ _ _ _ bR Jt Ju=>
  rw[SN,Q8,bR,Q9 _ (fun u aO=>(List.mem_append.1 aO).elim (Jt u) (Ju u))];simp[ar,need]
 | obj _ _ lT=>rw[SN,Q9 _ lT];simp[ar,need]
 | ajB _ _ lT=>rw[SN,Q9 _ lT];simp[ar,need]
 | blk _ lT=>rw[SN,Q9 _ lT];simp[ar,need]
 | body _ _ lT=>rw[SN,Q9 _ lT];simp[ar,need]
 | prog _ _ lT=>rw[SN,Q9 _ lT];simp[ar,need]
 | lit E=>rw[SN,VE];rcases E with rfl|rfl|rfl|rfl <;> simp[ar,need]
 | one E _ bR=>rw[SN,Q8,VE,bR];rcases E with rfl|rfl|rfl <;> simp[ar,need]
 | two E _ _ bR Bq=>rw[SN,Q8,Q8,VE,bR,Bq,atr _ _ Oq]
 | loop E _ _ bR Bq=>rw[SN,Q8,Q8,VE,bR,Bq];rcases E with rfl|rfl <;> simp[ar,need]
 | _=>simp[SN,Q8,VE,ar,need, *]
theorem acg {bf bH:List NR}{s:NR}{t:Tr}(h:QK bf bH s=.ok t):t.ill=0:=by
 obtain⟨_,_,h⟩:=aeI h;exact h.ill
def wrT (t:Tr)(s i b:Bool):Option Int:=
 if t.kd=1 then scE t true
 else if t.kd=6 then scE t b
 else if t.kd=5\/t.kd=37 then fnE t s
 else if t.kd=2\/t.kd=3\/t.kd=4 then nmE s t.tx
 else if t.kd=13 then WQ t s
 else if t.kd=7\/t.kd=8\/t.kd=9 then brE t s
 else if t.kd=10 then (if i then none else some 6)
 else if t.kd=24 then (if (Ph t 0).kd=23 then nmE s (Ph t 0).tx else none)
 else if t.kd=34 then (if s&&(Ph t 0).kd==23 then some 1 else none)
 else none
section
variable (t:Tr) (p:Nat) (s i b:Bool) (w:Ny) (h:SC w t p) (ai:t.count<=20000)
include h ai
theorem aDL (bn:t.kd=1):NK 104 #[Nu p,WL s i b] w fun e w'=>e=NU (Ub (scE t true))/\NJ w w':=by
 have z:=kk (∀{G}(h:G:=by
 have ah:=(WM t p true ei vQ ai);have h0:=km.c0;have h1:=km.c1;have O:=km.c2
 generalize scE t true=er at ah
 exact alB),G);exact zsp
theorem aDM (bn:t.kd=6):NK 104 #[Nu p,WL s i b] w fun e w'=>e=NU (Ub (scE t b))/\NJ w w':=by
 have z:=kk (∀{G}(h:G:=by
 have ah:=(WM t p b ei vQ ai);have h0:=km.c0;have h1:=km.c1;have O:=km.c2
 generalize scE t b=er at ah
 exact alB),G);exact zsp
theorem aDN (bn:t.kd=5)(E:2<=t.kids.length):NK 104 #[Nu p,WL s i b] w fun e w'=>e=NU (Ub (fnE t s))/\NJ w w':=by
 exact axb
theorem axc (bn:t.kd=37)(E:2<=t.kids.length):NK 104 #[Nu p,WL s i b] w fun e w'=>e=NU (Ub (fnE t s))/\NJ w w':=by
 exact axb
theorem axd (bn:t.kd=13)(E:1<=t.kids.length):NK 104 #[Nu p,WL s i b] w fun e w'=>e=NU (Ub (WQ t s))/\NJ w w':=by
 have z:=kk (∀{G}(h:G:=by
 have ah:=(aax t p s i b ei vQ E ai);have h0:=km.c0;have h1:=km.c1;have O:=km.c2
 generalize WQ t s=er at ah
 exact alB),G);exact zsp
theorem aDO (bn:t.kd=7):NK 104 #[Nu p,WL s i b] w fun e w'=>e=NU (Ub (brE t s))/\NJ w w':=by
 exact atc
theorem aDP (bn:t.kd=8):NK 104 #[Nu p,WL s i b] w fun e w'=>e=NU (Ub (brE t s))/\NJ w w':=by
 exact atc
theorem aDQ (bn:t.kd=9):NK 104 #[Nu p,WL s i b] w fun e w'=>e=NU (Ub (brE t s))/\NJ w w':=by
 exact atc
theorem aDR (bn:t.kd=2):NK 104 #[Nu p,WL s i b] w fun e w'=>e=NU (Ub (nmE s t.tx))/\NJ w w':=by
 exact atd
theorem aDS (bn:t.kd=3):NK 104 #[Nu p,WL s i b] w fun e w'=>e=NU (Ub (nmE s t.tx))/\NJ w w':=by
 exact atd
theorem aDT (bn:t.kd=4):NK 104 #[Nu p,WL s i b] w fun e w'=>e=NU (Ub (nmE s t.tx))/\NJ w w':=by
 exact atd
theorem axe (bn:t.kd=10):NK 104 #[Nu p,WL s i b] w fun e w'=>e=NU (Ub (if i then none else some 6))/\NJ w w':=by
 have z:=kk (∀{G}(h:G:=by
 have h1:=km.c1;rw[ip] at h1 hK;clear h ai gL cJ bn c3 c1 ip
 cases i <;>
 ·exact ate),G);exact zsp
theorem axf (bn:t.kd=24)(E:1<=t.kids.length):NK 104 #[Nu p,WL s i b] w fun e w'=>e=NU (Ub (if (Ph t 0).kd=23 then nmE s (Ph t 0).tx else none))/\NJ w w':=by
 have z:=kk (∀{G}(h:G:=by
 have jj:=hK;obtain⟨g,cap,q,rfl,hg,An,io⟩:=U.cell 0 Nw;rw[<-VW t 0 Nw] at io;obtain⟨dL,ce,bV,_⟩:=io.cells;have k7:=hide (fun W=>Uc s i b (Ph t 0).tx W);have e1:=hide (Oj hK bV);have hpl2:=cell_lt e1.out
 generalize (Ph t 0).tx=tx at k7 e1 bV
 generalize (Ph t 0).kd=kkq at ce
 generalize t.kids.length=L at c3 E cJ
 generalize nmE s tx=er at k7
 clear h ai gL bn c1 bV
 by_cases ii:kkq=23
 ·subst ii;simp only[if_true];have z:=kk (∀{G}(h:G:=by
  refine wh 0 (Nu q) ab ?_;refine wh 1 (Nu q) ab ?_;refine wh 2 (NM q 1) ab ?_;have z:=kk (∀{G}(h:G:=by
  cases er <;>
  ·unfold Ub;go_wp2_with fail;go_ret;exact⟨rfl,jj.trans (f5.mono jj.size)⟩),G);exact axg),G);exact axh
 ·have LP:(kkq==23)=false:=by simpa using ii
  simp only[if_neg ii];rw[ip] at jj;clear ii ip;go_enter func104,ntmps104;go_wp2_with fail;go_ret;exact⟨rfl,jj⟩),G);exact zsp
theorem axi (bn:t.kd=34)(E:1<=t.kids.length):NK 104 #[Nu p,WL s i b] w fun e w'=>e=NU (Ub (if s&&(Ph t 0).kd==23 then some 1 else none))/\NJ w w':=by
 have z:=kk (∀{G}(h:G:=by
 obtain⟨g,cap,q,rfl,hg,An,io⟩:=U.cell 0 Nw;rw[<-VW t 0 Nw] at io;obtain⟨dL,ce,bV,_⟩:=io.cells
 generalize (Ph t 0).tx=tx at bV
 generalize (Ph t 0).kd=kkq at ce
 generalize t.kids.length=L at c3 E cJ
 have h0:=km.c0;rw[ip] at h0 hK;clear h ai gL bn c1 bV ip
 cases s with
 | false=>
  exact ate
 | true=>
  cases ii:(kkq==23) <;>
  ·exact ate),G);exact zsp
omit ai in
theorem wrE (gH:t.kd≠1/\t.kd≠6/\t.kd≠5/\t.kd≠37/\t.kd≠2/\t.kd≠3/\t.kd≠4/\t.kd≠13/\t.kd≠7/\t.kd≠8/\t.kd≠9/\t.kd≠10/\t.kd≠24/\t.kd≠34):NK 104 #[Nu p,WL s i b] w fun e w'=>e=NU (Ub none)/\NJ w w':=by
 obtain⟨eY,c0,_,_⟩:=h.cells;have jj:=((Below.refl w.heap.size w).alloc OH (.cells #[NI s,NI i,NI b] 112));clear h
 generalize t.kd=kd at c0 gH
 obtain⟨bT,o4,o3,yb,cY,hx,rC,EP,o5,n0,yc,x8,x9,ya⟩:=gH;have cO:(kd==1)=false:=by simpa using bT
 have MK:(kd==6)=false:=by simpa using o4
 have MJ:(kd==5)=false:=by simpa using o3
 have MH:(kd==37)=false:=by simpa using yb
 have cP:(kd==2)=false:=by simpa using cY
 have c':(kd==3)=false:=by simpa using hx
 have MI:(kd==4)=false:=by simpa using rC
 have ME:(kd==13)=false:=by simpa using EP
 have ML:(kd==7)=false:=by simpa using o5
 have MM:(kd==8)=false:=by simpa using n0
 have MN:(kd==9)=false:=by simpa using yc
 have MD:(kd==10)=false:=by simpa using x8
 have MF:(kd==24)=false:=by simpa using x9
 have MG:(kd==34)=false:=by simpa using ya
 clear bT o4 o3 yb cY hx rC EP o5 n0 yc x8 x9 ya;go_enter func104,ntmps104;go_wp2_with fail;go_ret;exact⟨rfl,jj⟩
theorem Vy (h4:need t.kd<=t.kids.length):NK 104 #[Nu p,WL s i b] w fun e w'=>e=NU (Ub (wrT t s i b))/\NJ w w':=by
 unfold wrT
 by_cases bV:t.kd=1
 ·rw[if_pos bV];exact aDL t p s i b w h ai bV
 rw[if_neg bV]
 by_cases ui:t.kd=6
 ·rw[if_pos ui];exact aDM t p s i b w h ai ui
 rw[if_neg ui]
 by_cases mx:t.kd=5\/t.kd=37
 ·rw[if_pos mx];have aA:need t.kd=2:=by unfold need;rw[if_pos (mx.imp id Or.inl)]
  rcases mx with k|k
  ·exact aDN t p s i b w h ai k Nw
  ·exact axc t p s i b w h ai k Nw
 rw[if_neg mx]
 by_cases dB:t.kd=2\/t.kd=3\/t.kd=4
 ·rw[if_pos dB]
  rcases dB with k|k|k
  ·exact aDR t p s i b w h ai k
  ·exact aDS t p s i b w h ai k
  ·exact aDT t p s i b w h ai k
 rw[if_neg dB];have aA:∀ c:Int,(c=13\/c=24\/c=34)->t.kd=c->1<=t.kids.length:=fun c sy e=>by
  have:need t.kd=1:=by
   rw[e]
   rcases sy with rfl|rfl|rfl <;> decide
  omega
 by_cases wA:t.kd=13
 ·rw[if_pos wA];exact axd t p s i b w h ai wA (aA _ Oq wA)
 rw[if_neg wA]
 by_cases rx:t.kd=7\/t.kd=8\/t.kd=9
 ·rw[if_pos rx]
  rcases rx with k|k|k
  ·exact aDO t p s i b w h ai k
  ·exact aDP t p s i b w h ai k
  ·exact aDQ t p s i b w h ai k
 rw[if_neg rx]
 by_cases x0:t.kd=10
 ·rw[if_pos x0];exact axe t p s i b w h ai x0
 rw[if_neg x0]
 by_cases o1:t.kd=24
 ·rw[if_pos o1];exact axf t p s i b w h ai o1 (aA _ Oq o1)
 rw[if_neg o1]
 by_cases o2:t.kd=34
 ·rw[if_pos o2];exact axi t p s i b w h ai o2 (aA _ Oq o2)
 rw[if_neg o2];exact wrE t p s i b w h ⟨bV,ui,fun e=>mx (Or.inl e),fun e=>mx (Or.inr e),fun e=>dB (Or.inl e),fun e=>dB (Or.inr (Or.inl e)),fun e=>dB (Or.inr (Or.inr e)),wA,fun e=>rx (Or.inl e),fun e=>rx (Or.inr (Or.inl e)),fun e=>rx (Or.inr (Or.inr e)),x0,o1,o2⟩
end
def s2 (t:Tr)(s:Bool):Bool:=if Qq t then (s||Ou t)||Ou (Ph t 1) else s||Ou t
def i2 (t:Tr)(i:Bool):Bool:=if Qq t then true else i
mutual
def chk:Tr->Bool->Bool->Bool->Option Int
 | .mk kd tx n ks,s,i,b=>match wrT (.mk kd tx n ks) (s2 (.mk kd tx n ks) s) (i2 (.mk kd tx n ks) i) b with
  | some e=>some e
  | none=>SK ks (s2 (.mk kd tx n ks) s) (i2 (.mk kd tx n ks) i) (Qq (.mk kd tx n ks))
def SK:List Tr->Bool->Bool->Bool->Option Int
 | [],_,_,_=>none
 | t::am,s,i,b=>match chk t s i b with
  | some e=>some e
  | none=>SK am s i b
end
theorem aaz (t:Tr)(s i b:Bool):chk t s i b=match wrT t (s2 t s) (i2 t i) b with
  | some e=>some e
  | none=>SK t.kids (s2 t s) (i2 t i) (Qq t):=by
 cases t with
 | mk kd tx n ks=>rw[chk];rfl
theorem Vz:∀ (am:List Tr) (s i b:Bool) (k:Nat) (E:k<am.length),SK (am.take k) s i b=none->chk am[k] s i b=none->SK (am.take (k+1)) s i b=none
 | [],_,_,_,k,E=>absurd E Oq
 | t::am,s,i,b,0,_=>fun _ h=>by
  rw[List.take_succ_cons,List.take_zero,SK];rw[show chk t s i b=none from h];rw[SK]
 | t::am,s,i,b,k+1,E=>fun h1 O=>by
  rw[List.take_succ_cons,SK] at h1 ⊢
  cases h:chk t s i b with
  | some e=>rw[h] at h1;cases h1
  | none=>
   rw[h] at h1;exact Vz am s i b k (by simpa using E) h1 O
theorem WR:∀ (am:List Tr) (s i b:Bool) (k:Nat) (E:k<am.length) (e:Int),SK (am.take k) s i b=none->chk am[k] s i b=some e->SK am s i b=some e
 | [],_,_,_,k,E,_=>absurd E Oq
 | t::am,s,i,b,0,_,e=>fun _ h=>by
  rw[SK,show chk t s i b=some e from h]
 | t::am,s,i,b,k+1,E,e=>fun h1 O=>by
  rw[List.take_succ_cons,SK] at h1;rw[SK]
  cases h:chk t s i b with
  | some e=>rw[h] at h1;cases h1
  | none=>
   rw[h] at h1;exact WR am s i b k (by simpa using E) e h1 O
abbrev PlB (b:Nat)(s i d:Bool)(w:Ny):Prop:=w.heap[b]? = some (Og #[NI s,NI i,NI d] 112)
theorem PlB.at {b:Nat}{s i d:Bool}{w:Ny}(h:PlB b s i d w):WA b s i d w:=⟨by rw[cell_of h];rfl,by rw[cell_of h];rfl,by rw[cell_of h];rfl⟩
def arJ (m:Nat):Prop:=∀ (t:Tr),t.count<=m->t.ill=0->t.count<=20000->∀ (p:Nat) (s i b:Bool) (w:Ny),SC w t p ->
  NK 48 #[Nu p,WL s i b] w fun e w'=>e=NU (Ub (chk t s i b))/\NJ w w'
section
variable {m:Nat} (bR:arJ m) (t:Tr) (a':t.count<=m+1) (h4:t.ill=0) (ai:t.count<=20000) (p:Nat) (i b:Bool) (w:Ny) (h:SC w t p)
include bR a' h4 ai h
theorem axj (kP:Qq t=false):NK 48 #[Nu p,WL true i b] w fun e w'=>e=NU (Ub (chk t true i b))/\NJ w w':=by
 have z:=kk (∀{G}(h:G:=by
 obtain⟨nP,oI⟩:=aaA t h4;have kV:s2 t true=true:=by unfold s2;rw[kP];simp[]
 have kh:i2 t i=i:=by unfold i2;rw[kP];rfl
 have mh:=aaz t true i b;have z:=kk (∀{G}(h:G:=by
 have l6:=hide (fun W (a6:NJ w W)=>Vy t p true i b W (fl W a6) ai nP);have nk:Hid (∀ W,NJ w W->NK 102 #[Nu p] W fun e w'=>e=NU (NI false)/\w'=W):=fun W a6=>by
  exact atf
 have z:=kk (∀{G}(h:G:=by
 have np:Hid (∀ (k:Nat) (E:k<t.kids.length) (q:Nat) (W:Ny),SC W t.kids[k] q->NK 48 #[Nu q,WL true i false] W fun e w'=>e=NU (Ub (chk t.kids[k] true i false))/\NJ W w'):=fun k E q W ag=>by
  have h1:=SY t.kids k E;exact bR t.kids[k] Nw (oI _ (List.getElem_mem _)) Nw q true i false W ag
 obtain⟨er,nK⟩:=xE (wrT t true i b);obtain⟨vh,fF⟩:=xE (SK t.kids true i false);rw[<-nK,<-fF] at mh;simp only[<-nK] at l6;rw[mh];have s4:=hide fF;have jj:=((Below.refl w.heap.size w).alloc OH (.cells #[NI true,NI i,NI b] 112));clear a' h4 ai h gL nP oI kV kh fl nK fF mh;go_enter func48,ntmps48;have z:=kk (∀{G}(h:G:=by
 obtain⟨n1,lm⟩:=xE (w.alloc (.cells #[NI true,NI i,NI b] 112));have ie:NJ w n1:=by rw[lm];exact OM
 have kI:PlB w.heap.size true i b n1:=by rw[lm];exact NG _ _
 have z:=kk (∀{G}(h:G:=by
 have nX:PlB w.heap.size true i b dD:=(eK.block w.heap.size (lt_of_heap kI)).trans kI;have cf:=(ie.trans (eK.mono ie.size));clear lm
 cases er with
 | some e=>
  unfold Ub;go_wp2_with fail;go_ret;exact⟨rfl,cf⟩
 | none=>
  have z:=kk (∀{G}(h:G:=by
  obtain⟨iX,gN⟩:=xE (jg.setCell (Nv w.heap.size 2) (NI false));have oR:PlB w.heap.size true i false iX:=by rw[gN,PlB,heap_set nX];rfl
  have z:=kk (∀{G}(h:G:=by
  go_loopw [41] (fun j wr=>∃ k:Nat,k<=t.kids.length/\j=Nr k/\SK (t.kids.take k) true i false=none/\NJ iX wr) (fun j _=>t.kids.length - (intOf j).toNat)
  case atStart=>exact⟨0,Nat.zero_le _,rfl,by rw[List.take_zero,SK],P8⟩
  case round=>
   obtain⟨k,E,rfl,fo,D⟩:=hrel;have fJ:=hide fo;clear fo
   by_cases aQ:k<t.kids.length
   ·have z:=kk (∀{G}(h:G:=by
    have sI:PlB w.heap.size true i false wr:=(D.block w.heap.size (lt_of_heap oR)).trans oR;have z:=kk (∀{G}(h:G:=by
    have hX:=hide (fun e=>WR t.kids true i false k aQ e fJ.out);have ej:=hide (Vz t.kids true i false k aQ fJ.out)
    generalize chk t.kids[k] true i false=r at ah hX ej
    exact atg),G);exact ao8),G);exact ao9
   ·exact ath),G);exact axk),G);exact apa),G);exact apb),G);exact apc),G);exact alC),G);exact alD),G);exact zsv
theorem axl (kP:Qq t=true):NK 48 #[Nu p,WL true i b] w fun e w'=>e=NU (Ub (chk t true i b))/\NJ w w':=by
 have z:=kk (∀{G}(h:G:=by
 obtain⟨nP,oI⟩:=aaA t h4;have kV:s2 t true=true:=by unfold s2;rw[kP];simp[]
 have kh:i2 t i=true:=by unfold i2;rw[kP];rfl
 have mh:=aaz t true i b;have z:=kk (∀{G}(h:G:=by
 have l6:=hide (fun W (a6:NJ w W)=>Vy t p true true b W (fl W a6) ai nP);have z:=kk (∀{G}(h:G:=by
 have z:=kk (∀{G}(h:G:=by
 have z:=kk (∀{G}(h:G:=by
 have jj:=((Below.refl w.heap.size w).alloc OH (.cells #[NI true,NI i,NI b] 112));clear a' h4 ai h gL nP oI kV kh fl nK fF mh;go_enter func48,ntmps48;exact axm),G);exact axn),G);exact alC),G);exact ati),G);exact alD),G);exact zsv
theorem axo (kP:Qq t=false):NK 48 #[Nu p,WL false i b] w fun e w'=>e=NU (Ub (chk t false i b))/\NJ w w':=by
 have z:=kk (∀{G}(h:G:=by
 obtain⟨nP,oI⟩:=aaA t h4;have kV:s2 t false=(Ou t):=by unfold s2;rw[kP];simp[]
 have kh:i2 t i=i:=by unfold i2;rw[kP];rfl
 have mh:=aaz t false i b;have z:=kk (∀{G}(h:G:=by
 have l6:=hide (fun W (a6:NJ w W)=>Vy t p (Ou t) i b W (fl W a6) ai nP);have nk:Hid (∀ W,NJ w W->NK 102 #[Nu p] W fun e w'=>e=NU (NI false)/\w'=W):=fun W a6=>by
  exact atf
 have z:=kk (∀{G}(h:G:=by
 have np:Hid (∀ (k:Nat) (E:k<t.kids.length) (q:Nat) (W:Ny),SC W t.kids[k] q->NK 48 #[Nu q,WL (Ou t) i false] W fun e w'=>e=NU (Ub (chk t.kids[k] (Ou t) i false))/\NJ W w'):=fun k E q W ag=>by
  have h1:=SY t.kids k E;exact bR t.kids[k] Nw (oI _ (List.getElem_mem _)) Nw q (Ou t) i false W ag
 obtain⟨er,nK⟩:=xE (wrT t (Ou t) i b);obtain⟨vh,fF⟩:=xE (SK t.kids (Ou t) i false);have z:=kk (∀{G}(h:G:=by
 generalize Ou t=st at l6 hB np s4
 have z:=kk (∀{G}(h:G:=by
 rintro e e' ⟨rfl,rfl⟩;have z:=kk (∀{G}(h:G:=by
 obtain⟨n1,lm⟩:=xE (w.alloc (.cells #[NI st,NI i,NI b] 112));have ie:NJ w n1:=by rw[lm];exact OM
 have kI:PlB w.heap.size st i b n1:=by rw[lm];exact NG _ _
 have z:=kk (∀{G}(h:G:=by
 have nX:PlB w.heap.size st i b dD:=(eK.block w.heap.size (lt_of_heap kI)).trans kI;have cf:=(ie.trans (eK.mono ie.size));clear lm
 cases er with
 | some e=>
  unfold Ub;go_wp2_with fail;go_ret;exact⟨rfl,cf⟩
 | none=>
  have z:=kk (∀{G}(h:G:=by
  obtain⟨iX,gN⟩:=xE (jg.setCell (Nv w.heap.size 2) (NI false));have oR:PlB w.heap.size st i false iX:=by rw[gN,PlB,heap_set nX];rfl
  have z:=kk (∀{G}(h:G:=by
  go_loopw [41] (fun j wr=>∃ k:Nat,k<=t.kids.length/\j=Nr k/\SK (t.kids.take k) st i false=none/\NJ iX wr) (fun j _=>t.kids.length - (intOf j).toNat)
  case atStart=>exact⟨0,Nat.zero_le _,rfl,by rw[List.take_zero,SK],P8⟩
  case round=>
   obtain⟨k,E,rfl,fo,D⟩:=hrel;have fJ:=hide fo;clear fo
   by_cases aQ:k<t.kids.length
   ·have z:=kk (∀{G}(h:G:=by
    have sI:PlB w.heap.size st i false wr:=(D.block w.heap.size (lt_of_heap oR)).trans oR;have z:=kk (∀{G}(h:G:=by
    have hX:=hide (fun e=>WR t.kids st i false k aQ e fJ.out);have ej:=hide (Vz t.kids st i false k aQ fJ.out)
    generalize chk t.kids[k] st i false=r at ah hX ej
    exact atg),G);exact ao8),G);exact ao9
   ·exact ath),G);exact axk),G);exact apa),G);exact apb),G);exact apc),G);exact atj),G);exact axp),G);exact alC),G);exact alD),G);exact zsv
theorem axq (kP:Qq t=true)(bF:Ou t=true):NK 48 #[Nu p,WL false i b] w fun e w'=>e=NU (Ub (chk t false i b))/\NJ w w':=by
 have z:=kk (∀{G}(h:G:=by
 obtain⟨nP,oI⟩:=aaA t h4;have kV:s2 t false=true:=by unfold s2;rw[kP];simp[bF]
 have kh:i2 t i=true:=by unfold i2;rw[kP];rfl
 have mh:=aaz t false i b;have z:=kk (∀{G}(h:G:=by
 have l6:=hide (fun W (a6:NJ w W)=>Vy t p true true b W (fl W a6) ai nP);have z:=kk (∀{G}(h:G:=by
 have z:=kk (∀{G}(h:G:=by
 have z:=kk (∀{G}(h:G:=by
 have jj:=((Below.refl w.heap.size w).alloc OH (.cells #[NI false,NI i,NI b] 112));simp only[bF] at hB;have z:=kk (∀{G}(h:G:=by
 rintro e e' ⟨rfl,rfl⟩;exact axm),G);exact atj),G);exact axn),G);exact alC),G);exact ati),G);exact alD),G);exact zsv
theorem axr (kP:Qq t=true)(bF:Ou t=false):NK 48 #[Nu p,WL false i b] w fun e w'=>e=NU (Ub (chk t false i b))/\NJ w w':=by
 have z:=kk (∀{G}(h:G:=by
 obtain⟨nP,oI⟩:=aaA t h4;have kV:s2 t false=(Ou (Ph t 1)):=by unfold s2;rw[kP];simp[bF]
 have kh:i2 t i=true:=by unfold i2;rw[kP];rfl
 have mh:=aaz t false i b;have z:=kk (∀{G}(h:G:=by
 have l6:=hide (fun W (a6:NJ w W)=>Vy t p (Ou (Ph t 1)) true b W (fl W a6) ai nP);have z:=kk (∀{G}(h:G:=by
 have z:=kk (∀{G}(h:G:=by
 have np:Hid (∀ (k:Nat) (E:k<t.kids.length) (q:Nat) (W:Ny),SC W t.kids[k] q->NK 48 #[Nu q,WL (Ou (Ph t 1)) true true] W fun e w'=>e=NU (Ub (chk t.kids[k] (Ou (Ph t 1)) true true))/\NJ W w'):=fun k E q W ag=>by
  have h1:=SY t.kids k E;exact bR t.kids[k] Nw (oI _ (List.getElem_mem _)) Nw q (Ou (Ph t 1)) true true W ag
 obtain⟨er,nK⟩:=xE (wrT t (Ou (Ph t 1)) true b);obtain⟨vh,fF⟩:=xE (SK t.kids (Ou (Ph t 1)) true true);have z:=kk (∀{G}(h:G:=by
 simp only[bF] at hB
 generalize Ou (Ph t 1)=st at l6 np s4 CA
 have z:=kk (∀{G}(h:G:=by
 rintro e e' ⟨rfl,rfl⟩;have z:=kk (∀{G}(h:G:=by
 refine cm (Ns ly kP _ ((Below.refl w.heap.size w).alloc OH _)) ?_;rintro e cj ⟨⟨q,rfl,ag⟩,rfl⟩;have ah:=(Ns CA q _ ag);go_wp2_with fail;refine cm ah ?_;rintro e cj ⟨rfl,rfl⟩;go_wp2_with fail;obtain⟨n1,lm⟩:=xE (w.alloc (.cells #[NI st,NI true,NI b] 112));have ie:NJ w n1:=by rw[lm];exact OM
 have kI:PlB w.heap.size st true b n1:=by rw[lm];exact NG _ _
 have z:=kk (∀{G}(h:G:=by
 have nX:PlB w.heap.size st true b dD:=(eK.block w.heap.size (lt_of_heap kI)).trans kI;have cf:=(ie.trans (eK.mono ie.size));clear lm
 cases er with
 | some e=>
  unfold Ub;go_wp2_with fail;go_ret;exact⟨rfl,cf⟩
 | none=>
  have z:=kk (∀{G}(h:G:=by
  obtain⟨iX,gN⟩:=xE (jg.setCell (Nv w.heap.size 2) (NI true));have oR:PlB w.heap.size st true true iX:=by rw[gN,PlB,heap_set nX];rfl
  have du:NJ w iX:=by
   exact axt
  have z:=kk (∀{G}(h:G:=by
  go_loopw [41] (fun j wr=>∃ k:Nat,k<=t.kids.length/\j=Nr k/\SK (t.kids.take k) st true true=none/\NJ iX wr) (fun j _=>t.kids.length - (intOf j).toNat)
  case atStart=>exact⟨0,Nat.zero_le _,rfl,by rw[List.take_zero,SK],P8⟩
  case round=>
   obtain⟨k,E,rfl,fo,D⟩:=hrel;have fJ:=hide fo;clear fo
   by_cases aQ:k<t.kids.length
   ·have z:=kk (∀{G}(h:G:=by
    have sI:PlB w.heap.size st true true wr:=(D.block w.heap.size (lt_of_heap oR)).trans oR;have z:=kk (∀{G}(h:G:=by
    have hX:=hide (fun e=>WR t.kids st true true k aQ e fJ.out);have ej:=hide (Vz t.kids st true true k aQ fJ.out)
    generalize chk t.kids[k] st true true=r at ah hX ej
    exact atg),G);exact ao8),G);exact ao9
   ·exact ath),G);exact axu),G);exact apa),G);exact apb),G);exact apc),G);exact atj),G);exact axp),G);exact alC),G);exact ati),G);exact alD),G);exact zsv
end
theorem ajE:∀ m,arJ m:=by
 intro m
 induction m with
 | zero=>
  exact atl
 | succ m bR=>
  intro t a' h4 ai p s i b w h
  cases s with
  | true=>
   cases aG:Qq t with
   | true=>exact axl bR t a' h4 ai p i b w h aG
   | false=>exact axj bR t a' h4 ai p i b w h aG
  | false=>
   cases aG:Qq t with
   | false=>exact axo bR t a' h4 ai p i b w h aG
   | true=>
    cases ae:Ou t with
    | true=>exact axq bR t a' h4 ai p i b w h aG ae
    | false=>exact axr bR t a' h4 ai p i b w h aG ae
theorem acn (t:Tr)(p:Nat)(s i:Bool)(w:Ny)(h:SC w t p)(h4:t.ill=0)(ai:t.count<=20000):NK 26 #[Nu p,NI s,NI i] w fun e w'=>e=NU (Ub (chk t s i false))/\NJ w w':=by
 have ah:=(ajE t.count t OH h4 ai p s i false w h);clear h h4 ai
 generalize chk t s i false=r at ah
 cases r <;>
 ·go_enter func26,ntmps26;go_wp2_with fail;refine cm ah ?_;rintro e w1 ⟨rfl,D⟩;unfold Ub;go_wp2_with fail;go_ret;exact⟨rfl,D⟩
theorem WS {s fh:Bool}{x:NR}(ae:fh=true->s=true)(h:nmE s x=none):nmE fh x=none:=by
 unfold nmE at h ⊢
 cases fh with
 | false=>rfl
 | true=>rw[ae rfl] at h;exact h
theorem ajF {s fh:Bool}{P:List Tr}{k:Nat}(ae:fh=true->s=true)(h:TQ s P k=none):TQ fh P k=none:=by
 unfold TQ at h ⊢
 cases h1:nmE s (abQ P k) with
 | some e=>rw[h1] at h;cases h
 | none=>
  rw[h1] at h;rw[WS ae h1]
  cases fh with
  | false=>rfl
  | true=>rw[ae rfl] at h;exact h
theorem Zy {f g:Nat->Option Int}(DR:∀ k,f k=none->g k=none):∀ n,SI f n=none->SI g n=none
 | 0,_=>rfl
 | n+1,h=>by
  rw[SI] at h ⊢
  cases h1:SI f n with
  | some e=>rw[h1] at h;cases h
  | none=>
   rw[h1] at h;rw[Zy DR n h1];exact DR n h
section
variable {s fh:Bool} {t:Tr} (ae:fh=true->s=true)
include s fh t ae
theorem alE (h:fnE t s=none):fnE t fh=none:=by
 unfold fnE at h ⊢
 cases h1:nmE s t.tx with
 | some e=>rw[h1] at h;cases h
 | none=>
  rw[h1] at h;rw[WS ae h1]
  cases O:ao4 s (Ph t 0).kids with
  | some e=>simp only[O] at h;cases h
  | none=>
   simp only[O] at h;have ax:ao4 fh (Ph t 0).kids=none:=Zy (fun k=>ajF ae) _ O;simp only[ax];exact h
theorem aeL (h:WQ t s=none):WQ t fh=none:=by
 unfold WQ at h ⊢
 cases h1:nmE s t.tx with
 | some e=>rw[h1] at h;cases h
 | none=>
  rw[h1] at h;rw[WS ae h1];exact h
theorem alF (h:brE t s=none):brE t fh=none:=by
 unfold brE at h ⊢
 cases fh with
 | true=>rw[ae rfl] at h;exact h
 | false=>
  split at h
  ·
   cases h
  ·rename_i aA
   rw[if_neg];intro hh;exact aA (by simp at hh ⊢;exact Or.inr hh)
end
theorem alG {t:Tr}{s fh i hQ b:Bool}(ae:fh=true->s=true)(ay:i=true->hQ=true)(h:wrT t s i b=none):wrT t fh hQ b=none:=by
 unfold wrT at h ⊢
 split at h
 ·rename_i k;rw[if_pos k];exact h
 rename_i bV;rw[if_neg bV]
 split at h
 ·rename_i k;rw[if_pos k];exact h
 rename_i dB;rw[if_neg dB]
 split at h
 ·rename_i k;rw[if_pos k];exact alE ae h
 rename_i ir;rw[if_neg ir]
 split at h
 ·rename_i k;rw[if_pos k];exact WS ae h
 rename_i k4;rw[if_neg k4]
 split at h
 ·rename_i k;rw[if_pos k];exact aeL ae h
 rename_i mx;rw[if_neg mx]
 split at h
 ·rename_i k;rw[if_pos k];exact alF ae h
 rename_i ui;rw[if_neg ui]
 split at h
 ·rename_i k
  rw[if_pos k]
  split at h
  ·rename_i hh;rw[if_pos (ay hh)]
  ·
   cases h
 rename_i rx;rw[if_neg rx]
 split at h
 ·rename_i k
  rw[if_pos k]
  split at h
  ·rename_i hh;rw[if_pos hh];exact WS ae h
  ·rename_i hh;rw[if_neg hh]
 rename_i JA;rw[if_neg JA]
 split at h
 ·rename_i k
  rw[if_pos k]
  cases fh with
  | false=>rfl
  | true=>rw[ae rfl] at h;exact h
 ·rename_i k;rw[if_neg k]
theorem aiu {t:Tr}{s fh:Bool}(ae:fh=true->s=true):s2 t fh=true->s2 t s=true:=by
 unfold s2
 cases fh with
 | false=>cases s <;> cases Qq t <;> simp <;> exact fun h=>h
 | true=>rw[ae rfl];exact fun h=>h
theorem aiv {t:Tr}{i hQ:Bool}(ay:i=true->hQ=true):i2 t i=true->i2 t hQ=true:=by
 unfold i2
 cases Qq t with
 | true=>exact fun h=>h
 | false=>exact ay
mutual
theorem alH:∀ (t:Tr) {s fh i hQ b:Bool},(fh=true->s=true)->(i=true->hQ=true)->chk t s i b=none->chk t fh hQ b=none
 | .mk kd tx n ks,s,fh,i,hQ,b,ae,ay,h=>by
  rw[chk] at h ⊢
  cases h1:wrT (.mk kd tx n ks) (s2 (.mk kd tx n ks) s) (i2 (.mk kd tx n ks) i) b with
  | some e=>rw[h1] at h;cases h
  | none=>
   rw[h1] at h;rw[alG (aiu ae) (aiv ay) h1];exact aco ks (aiu ae) (aiv ay) h
theorem aco:∀ (am:List Tr) {s fh i hQ b:Bool},(fh=true->s=true)->(i=true->hQ=true)->SK am s i b=none->SK am fh hQ b=none
 | [],_,_,_,_,_,_,_,_=>by rw[SK]
 | t::am,s,fh,i,hQ,b,ae,ay,h=>by
  rw[SK] at h ⊢
  cases h1:chk t s i b with
  | some e=>rw[h1] at h;cases h
  | none=>
   rw[h1] at h;rw[alH t ae ay h1];exact aco am ae ay h
end
namespace Hp
instance:DecidableEq Va:=fun a b=>decidable_of_iff (a.k=b.k/\a.n=b.n/\a.s=b.s) ⟨fun⟨h1,O,ax⟩=>by cases a;cases b;simp_all,fun h=>by subst h;exact⟨rfl,rfl,rfl⟩⟩
def vU:Va:=⟨0,0,NC⟩
def afd:Va:=⟨1,0,NC⟩
def Pg (b:Bool):Va:=⟨2,if b then 1 else 0,NC⟩
def VF (n:Int):Va:=⟨3,n,NC⟩
def U1 (s:NR):Va:=⟨4,0,s⟩
def Rz (o:Int):Va:=⟨5,o,NC⟩
def Va.tru (v:Va):Bool:=if v.k=0\/v.k=1 then false else if v.k=2\/v.k=3 then v.n != 0 else if v.k=4 then !decide (v.s=NC) else true
abbrev Qe:NR:=⟨#[114,101,102,101,114,101,110,99,101]⟩
abbrev tType:NR:=⟨#[116,121,112,101]⟩
abbrev SS:NR:=⟨#[114,97,110,103,101]⟩
abbrev SE:NR:=⟨#[115,121,110,116,97,120]⟩
abbrev Qx:NR:=⟨#[117,110,100,101,102,105,110,101,100]⟩
abbrev aix:NR:=⟨#[110,117,108,108]⟩
abbrev aaB:NR:=⟨#[116,114,117,101]⟩
abbrev XY:NR:=⟨#[102,97,108,115,101]⟩
abbrev Ol:NR:=⟨#[102,117,110,99,116,105,111,110]⟩
abbrev XB:NR:=⟨#[111,98,106,101,99,116]⟩
abbrev afe:NR:=⟨#[98,111,111,108,101,97,110]⟩
abbrev aiJ:NR:=⟨#[110,117,109,98,101,114]⟩
abbrev aiK:NR:=⟨#[115,116,114,105,110,103]⟩
abbrev XC:NR:=⟨#[108,101,110,103,116,104]⟩
abbrev Tv:NR:=⟨#[112,114,105,110,116]⟩
def ZB (n:Int):NR:=⟨(Lib.itoa n).toArray⟩
def Xa (a b:NR):NR:=⟨(a.data.toList++b.data.toList).toArray⟩
def Wv:List NR->NR
 | []=>NC
 | [a]=>a
 | a::l=>Xa a (Xa ⟨#[32]⟩ (Wv l))
def Mo.shw (M:Mo)(v:Va):NR:=
 if v.k=0 then Qx else if v.k=1 then aix else if v.k=2 then (if v.tru then aaB else XY) else if v.k=3 then ZB v.n else if v.k=4 then v.s else if v.k=5 then (if M.codeOf v.n≠0 then Ol else XB) else NC
inductive Er where
 | no
 | stop
 | Wq (v:Va)
 | mis
def erP (c:Int):Er:=if c=0 then .no else .mis
abbrev bad (s:NR):Er:=.Wq (U1 s)
abbrev Nd:=Option Nat × Tr
structure Fu where
 d:Nd
 scope:Int
 strict:Bool
structure Pl where
 scope:Int
 declares:Int
 strict:Bool
structure St where
 M:Mo
 log:List NR
 steps:Nat
 seen:List (Int × Int)
 PS:List Int
 Qn:List Fu
 calls:Nat
def ZN:Option Nat->List Tr->List Nd
 | _,[]=>[]
 | no,t::am=>(no,t)::ZN (no.map (· + t.count)) am
abbrev O3 (d:Nd):List Nd:=ZN (d.1.map (· + 1)) d.2.kids
abbrev apI:Nd:=(none,.mk 22 NC 0 [])
abbrev Nz (d:Nd)(i:Nat):Nd:=(O3 d).getD i apI
def own (d:Nd):Int:=match d.1 with
 | some k=>k
 | none=>-3
def St.opn (σ:St)(u o ow:Int):St:={ σ with M:=σ.M.scope u o,PS:=σ.PS++[ow] }
abbrev St.top (σ:St):Int:=σ.M.NQ.length
def St.step (σ:St):St:={ σ with steps:=σ.steps+1 }
def mkFun (d:Nd)(p:Pl)(σ:St):Va × St:=
 (Rz σ.M.objs.length,{ σ with Qn:=σ.Qn++[⟨d,p.scope,p.strict||Ou (Nz d 1).2⟩],M:=σ.M.Oy (3+σ.Qn.length) })
def St.dec (σ:St)(s:Int)(nm:NR)(kd:Int)(v:Va):St:={ σ with M:=(σ.M.declare s nm kd v).2 }
def St.Qo (σ:St)(o:Int)(nm:NR)(v:Va)(fx:Bool):St:={ σ with M:=(σ.M.put o nm v fx).2 }
def VG (d:Nd)(p:Pl)(σ:St):Va × St:=
 if d.2.tx=NC then mkFun d p σ else
  let s:=σ.top
  let σ1:=σ.opn p.scope (-1) (own d)
  let r:=mkFun d { p with scope:=s } σ1
  (r.1,r.2.dec s d.2.tx 3 r.1)
def settle (s:Int)(nm:NR)(v:Va)(σ:St):St:=
 if (σ.M.declare s nm 0 v).1=0 then σ.dec s nm 0 v else { σ with M:=(σ.M.write s nm v).2 }
def PK (am:List Tr)(s:Int)(σ:St):St:=am.foldl (fun σ k=>σ.dec s k.tx (if k.kd=4 then 2 else 1) vU) σ
def Sl (d:Nd):List Nd:=(O3 d).filter fun k=>RN k.2
def Tz (d:Nd)(p:Pl)(σ:St):St:=(Sl d).foldl (fun σ k=>let r:=mkFun k p σ;settle p.scope k.2.tx r.1 r.2) σ
def Px (d:Nd)(σ:St):Pl × St:=
 let σ1:=(O1 d.2).foldl (fun σ nm=>if σ.M.has 0 nm then σ else σ.Qo 0 nm vU true) σ
 let ck:=PK (OC d.2) 1 σ1
 let p:Pl:=⟨1,0,Ou d.2⟩
 (p,(Sl d).foldl (fun σ k=>let r:=mkFun k p σ;r.2.Qo 0 k.2.tx r.1 true) ck)
def hasArgs (ps:List Tr)(bl:Tr):Bool:=!(ps.any fun k=>decide (k.tx=tArgs)) && !hasB (namesT bl false) tArgs
def QY (args:List Va)(σ:St):Va × St:=
 let o:Int:=σ.M.objs.length
 let σ1:=({ σ with M:=σ.M.Oy 0 }:St).Qo o XC (VF args.length) false
 (Rz o,(args.zipIdx).foldl (fun σ (v,i)=>σ.Qo o (Xa ⟨#[97]⟩ (ZB i)) v false) σ1)
def QZ (d:Nd)(p:Pl)(args:List Va)(σ:St):St:=
 let ps:=(Nz d 0).2.kids
 let bl:=Nz d 1
 let σ1:=(ps.zipIdx).foldl (fun σ (k,i)=>settle p.scope k.tx (args.getD i vU) σ) σ
 let ck:=if hasArgs ps bl.2 then let r:=QY args σ1;r.2.dec p.scope tArgs 0 r.1 else σ1
 let qL:=(O1 bl.2).foldl (fun σ nm=>σ.dec p.scope nm 0 vU) ck
 Tz bl p (PK (OC bl.2) p.scope qL)
def O8 (d:Nd)(p:Pl)(σ:St):Pl × St:=
 if (namesT d.2 false).length=0 then (p,σ) else
  let s:=σ.top
  let cE:={ p with scope:=s }
  (cE,Tz d cE (PK (OC d.2) s (σ.opn p.scope (-1) (own d))))
def look (d:Nd)(p:Pl)(σ:St):Int × St:=
 let s:=σ.M.find p.scope d.2.tx
 (s,match d.1 with
  | some k=>if s≠-1 then { σ with seen:=σ.seen++[((k:Int),σ.PS.getD s.toNat 0)] } else σ
  | none=>σ)
def V5 (s:Int)(nm:NR)(v:Va)(strict:Bool)(σ:St):Er × St:=
 if strict then (bad Qe,σ) else
  let o:=σ.M.Ql s
  (erP (σ.M.put (if o = -1 then 0 else o) nm v false).1,σ.Qo (if o = -1 then 0 else o) nm v false)
def asg (s:Int)(nm:NR)(v:Va)(strict:Bool)(σ:St):Er × St:=
 let r:=σ.M.write s nm v
 let σ1:St:={ σ with M:=r.2 }
 if r.1=7 then V5 s nm v strict σ1 else if r.1=6 then (bad Qe,σ1) else if r.1=1 then (bad tType,σ1) else if r.1=5 then (if strict then bad tType else .no,σ1) else (.no,σ1)
def Ul (M:Mo)(v:Va):NR:=if v.k=0 then Qx else if v.k=2 then afe else if v.k=3 then aiJ else if v.k=4 then aiK else if v.k=5/\M.codeOf v.n≠0 then Ol else XB
def TJ (n:Int):Va × Er:=if n < -1000000000\/1000000000<n then (vU,bad SS) else (VF n,.no)
def U2 (M:Mo)(kd:Int)(a b:Va):Va × Er:=
 if kd=27 then (Pg (decide (a=b)),.no)
 else if a.k=3/\b.k=3 then (if kd=28 then (Pg (decide (a.n<b.n)),.no) else if kd=29 then TJ (a.n+b.n) else if kd=30 then TJ (a.n - b.n) else TJ (a.n * b.n))
 else if kd=29/\(a.k=4\/b.k=4) then (if 500<(M.shw a).size+(M.shw b).size then (vU,bad SS) else (U1 (Xa (M.shw a) (M.shw b)),.no))
 else if kd=28/\a.k=4/\b.k=4 then (Pg (decide (a.s.data.toList<b.s.data.toList)),.no)
 else (vU,bad tType)
structure Oc where
 ret:Bool
 v:Va
abbrev PX:Oc:=⟨false,vU⟩
structure Fx where
 v:Nd->Pl->St->(Va × Er) × St
 s:Nd->Pl->Option Va->St->(Oc × Er × Option Va) × St
section
variable (F:Fx)
def TU (p:Pl):List Nd->List Va->St->(List Va × Er) × St
 | [],be,σ=>((be,.no),σ)
 | d::a1,be,σ=>match F.v d p σ with
  | ((v,.no),σ1)=>TU p a1 (be++[v]) σ1
  | ((_,e),σ1)=>(([],e),σ1)
def QC (p:Pl):List Nd->Option Va->St->(Oc × Er × Option Va) × St
 | [],l,σ=>((PX,.no,l),σ)
 | d::a1,l,σ=>match F.s d p l σ with
  | ((o,.no,b8),σ1)=>if o.ret then ((o,.no,b8),σ1) else QC p a1 b8 σ1
  | r=>r
def within (σ:St)(f:St->(Va × Er) × St):(Va × Er) × St:=
 if σ.calls=40 then ((vU,bad SS),σ) else
  let r:=f { σ with calls:=σ.calls+1 }
  (r.1,{ r.2 with calls:=r.2.calls - 1 })
def V6 (f:Fu)(args:List Va)(σ:St):(Va × Er) × St:=within σ fun σ=>
 let s:=σ.top
 let σ1:=σ.opn f.scope (-1) (own f.d)
 let p:Pl:=⟨s,s,f.strict⟩
 let r:=QC F p (O3 (Nz f.d 1)) none (QZ f.d p args σ1)
 ((r.1.1.v,r.1.2.1),r.2)
def Ri (t:Tr):List NR:=O1 t++(RS t).map Tr.tx
def aff (M:Mo)(nm:NR)(stop:Int):Nat->Int->Bool
 | 0,_=>false
 | f+1,s=>if s = -1 then false else if M.kindOf s nm=1\/M.kindOf s nm=2 then true else if s=stop then false else aff M nm stop f (M.outOf s)
def hidden (M:Mo)(t:Tr)(p:Pl):Bool:=(Ri t).any fun nm=>aff M nm p.declares (M.NQ.length+1) p.scope
def loosen (s:Int)(nm:NR)(σ:St):St:=if σ.M.has s nm then σ else if σ.M.Ql s≠-1 then σ.Qo (σ.M.Ql s) nm vU false else σ.dec s nm 4 vU
def NW (d:Nd)(p:Pl)(σ:St):Pl × St:=
 let σ1:=(Ri d.2).foldl (fun σ nm=>loosen p.declares nm σ) σ
 let q:Pl × St:=if 0<(OC d.2).length then ({ p with scope:=σ1.top },PK (OC d.2) σ1.top (σ1.opn p.scope (-1) (-3))) else (p,σ1)
 (q.1,(Sl d).foldl (fun σ k=>let r:=mkFun k q.1 σ;{ r.2 with M:=(r.2.M.write q.1.declares k.2.tx r.1).2 }) q.2)
def Xb (d:Nd)(p:Pl)(σ:St):(Va × Er) × St:=
 let st:=p.strict||Ou d.2
 if !st&&hidden σ.M d.2 { p with strict:=st } then ((vU,bad SE),σ) else
  let q:Pl × St:=if st then (⟨σ.top,σ.top,true⟩,σ.opn p.scope (-1) (-3)) else ({ p with strict:=st },σ)
  let bE:=NW d q.1 q.2
  let r:=QC F bE.1 (O3 d) (some vU) bE.2
  match r.1.2.1 with
  | .no=>((r.1.2.2.getD vU,.no),r.2)
  | e=>((vU,e),r.2)
def Xc (callee:Tr)(p:Pl)(args:List Va)(σ:St):(Va × Er) × St:=
 match args with
 | []=>((vU,.no),σ)
 | a::_=>if a.k≠4 then ((a,.no),σ) else
  let cE:Pl:=if callee.kd≠23\/callee.tx≠TK then ⟨1,0,false⟩ else p
  within σ fun σ=>match QK PI Pq a.s with
   | .ok t=>match chk t cE.strict false false with
    | none=>Xb F (none,t) cE σ
    | some _=>((vU,bad SE),σ)
   | _=>((vU,bad SE),σ)
def Yy (d:Nd)(p:Pl)(σ:St):(Va × Er) × St:=
 match TU F p (O3 d) [] σ with
 | ((f::args,.no),σ1)=>
  if f.k≠5 then ((vU,bad tType),σ1) else
  let c:=σ1.M.codeOf f.n
  if c=0 then ((vU,bad tType),σ1)
  else if c=1 then ((vU,.no),{ σ1 with log:=σ1.log++[Wv (args.map σ1.M.shw)] })
  else if c=2 then Xc F (Nz d 0).2 p args σ1
  else match σ1.Qn[(c - 3).toNat]? with
   | some fn=>V6 F fn args σ1
   | none=>((vU,.no),σ1)
 | ((_,e),σ1)=>((vU,e),σ1)
def Tc (d:Nd)(p:Pl)(σ:St):(Int × Er) × St:=match F.v d p σ with
 | ((v,.no),σ1)=>if v.k≠5 then ((-1,bad tType),σ1) else ((v.n,.no),σ1)
 | ((_,e),σ1)=>((-1,e),σ1)
def Y9 (p:Pl)(o:Int):List Nd->St->(Va × Er) × St
 | [],σ=>((Rz o,.no),σ)
 | k::ks,σ=>match F.v (Nz k 0) p σ with
  | ((v,.no),σ1)=>Y9 p o ks (σ1.Qo o k.2.tx v false)
  | ((_,e),σ1)=>((vU,e),σ1)
def aj9 (d:Nd)(p:Pl)(σ:St):(Va × Er) × St:=
 let t0:=Nz d 0
 if t0.2.kd=36 then
  match F.v (Nz t0 0) p σ with
  | ((ob,.no),σ1)=>match F.v (Nz d 1) p σ1 with
   | ((v,.no),ck)=>if ob.k≠5 then ((vU,bad tType),ck) else ((v,erP (ck.M.put ob.n t0.2.tx v false).1),ck.Qo ob.n t0.2.tx v false)
   | ((_,e),ck)=>((vU,e),ck)
  | ((_,e),σ1)=>((vU,e),σ1)
 else
  let r:=look t0 p σ
  match F.v (Nz d 1) p r.2 with
  | ((v,.no),σ1)=>let a:=asg r.1 t0.2.tx v p.strict σ1;((v,a.1),a.2)
  | ((_,e),σ1)=>((vU,e),σ1)
def aaR (d:Nd)(p:Pl)(σ:St):(Va × Er) × St:=
 let k:=Nz d 0
 if k.2.kd=23 then
  let r:=σ.M.drop (σ.M.find p.scope k.2.tx) k.2.tx
  ((Pg r.1,.no),{ σ with M:=r.2 })
 else if k.2.kd=36 then
  match Tc F (Nz k 0) p σ with
  | ((o,.no),σ1)=>let r:=σ1.M.cut o k.2.tx;if !r.1&&p.strict then ((vU,bad tType),{ σ1 with M:=r.2 }) else ((Pg r.1,.no),{ σ1 with M:=r.2 })
  | ((_,e),σ1)=>((vU,e),σ1)
 else match F.v k p σ with
  | ((_,.no),σ1)=>((Pg true,.no),σ1)
  | ((_,e),σ1)=>((vU,e),σ1)
def Yg (d:Nd)(p:Pl)(qK:St):(Va × Er) × St:=
 let σ:=qK.step
 let t:=d.2
 if 20000<σ.steps then ((vU,.stop),σ)
 else if t.kd=17 then ((VF t.n,.no),σ)
 else if t.kd=18 then ((U1 t.tx,.no),σ)
 else if t.kd=19\/t.kd=20 then ((Pg (decide (t.kd=19)),.no),σ)
 else if t.kd=21 then ((afd,.no),σ)
 else if t.kd=23 then
  let r:=look d p σ
  let x:=r.2.M.read r.1 t.tx
  if x.2=0 then ((x.1,.no),r.2) else ((vU,bad Qe),r.2)
 else if t.kd=24 then aj9 F d p σ
 else if t.kd=25\/t.kd=26 then match F.v (Nz d 0) p σ with
  | ((v,.no),σ1)=>if v.tru=decide (t.kd=25) then ((v,.no),σ1) else F.v (Nz d 1) p σ1
  | r=>r
 else if 27<=t.kd/\t.kd<=31 then match TU F p (O3 d) [] σ with
  | ((a::b::_,.no),σ1)=>(U2 σ1.M t.kd a b,σ1)
  | ((_,e),σ1)=>((vU,e),σ1)
 else if t.kd=32 then match F.v (Nz d 0) p σ with
  | ((v,.no),σ1)=>((Pg (!v.tru),.no),σ1)
  | ((_,e),σ1)=>((vU,e),σ1)
 else if t.kd=33 then
  if (Nz d 0).2.kd=23/\σ.M.find p.scope (Nz d 0).2.tx = -1 then ((U1 Qx,.no),σ)
  else match F.v (Nz d 0) p σ with
   | ((v,.no),σ1)=>((U1 (Ul σ1.M v),.no),σ1)
   | ((_,e),σ1)=>((vU,e),σ1)
 else if t.kd=34 then aaR F d p σ
 else if t.kd=35 then Yy F d p σ
 else if t.kd=36 then match Tc F (Nz d 0) p σ with
  | ((o,.no),σ1)=>((((σ1.M.prop o t.tx).map Pr.v).getD vU,.no),σ1)
  | ((_,e),σ1)=>((vU,e),σ1)
 else if t.kd=37 then let r:=VG d p σ;((r.1,.no),r.2)
 else if t.kd=38 then Y9 F p σ.M.objs.length (O3 d) { σ with M:=σ.M.Oy 0 }
 else ((vU,.no),σ)
def TV (a1:List Nd)(p:Pl)(σ:St):(Va × Er) × St:=match a1 with
 | []=>((vU,.no),σ)
 | d::_=>F.v d p σ
def X3 (d:Nd)(p:Pl):Nat->Option Va->St->(Oc × Er × Option Va) × St
 | 0,l,σ=>((PX,.stop,l),σ)
 | k+1,l,σ=>match F.v (Nz d 0) p σ with
  | ((v,.no),σ1)=>if v.tru then match F.s (Nz d 1) p l σ1 with
    | ((o,.no,b8),ck)=>if o.ret then ((o,.no,b8),ck) else X3 d p k b8 ck
    | r=>r
   else ((PX,.no,l),σ1)
  | ((_,e),σ1)=>((PX,e,l),σ1)
def WC (d:Nd)(p:Pl)(o:Oc)(e:Er)(l:Option Va)(σ:St):(Oc × Er × Option Va) × St:=match e with
 | .Wq v=>
  let s:=σ.top
  F.s (Nz d 0) { p with scope:=s } l ((σ.opn p.scope (-1) (own d)).dec s d.2.tx 0 v)
 | e=>((o,e,l),σ)
def U3 (d:Nd)(p:Pl)(o:Oc)(e:Er)(l:Option Va)(σ:St):(Oc × Er × Option Va) × St:=match e with
 | .stop=>((o,.stop,l),σ)
 | e=>match F.s (Nz d 0) p l σ with
  | ((bG,.no,b8),σ1)=>if bG.ret then ((bG,.no,b8),σ1) else ((o,e,b8),σ1)
  | r=>r
def Za (p:Pl):List Nd->Oc->Er->Option Va->St->(Oc × Er × Option Va) × St
 | [],o,e,l,σ=>((o,e,l),σ)
 | k::ks,o,e,l,σ=>
  let r:=if k.2.kd=13 then WC F k p o e l σ else U3 F k p o e l σ
  Za p ks r.1.1 r.1.2.1 r.1.2.2 r.2
def stF (fuel:Nat)(d:Nd)(p:Pl)(l:Option Va)(qK:St):(Oc × Er × Option Va) × St:=
 let σ:=qK.step
 let t:=d.2
 if 20000<σ.steps then ((PX,.stop,l),σ)
 else if t.kd=2 then
  if t.kids.length=0 then ((PX,.no,l),σ) else
  let s:=σ.M.find p.scope t.tx
  match F.v (Nz d 0) p σ with
  | ((v,.no),σ1)=>let a:=asg s t.tx v p.strict σ1;((PX,a.1,l),a.2)
  | ((_,e),σ1)=>((PX,e,l),σ1)
 else if t.kd=3\/t.kd=4 then match TV F (O3 d) p σ with
  | ((v,.no),σ1)=>((PX,erP (σ1.M.start p.scope t.tx v).1,l),{ σ1 with M:=(σ1.M.start p.scope t.tx v).2 })
  | ((_,e),σ1)=>((PX,e,l),σ1)
 else if t.kd=6 then let b:=O8 d p σ;QC F b.1 (O3 d) l b.2
 else if t.kd=7 then match F.v (Nz d 0) p σ with
  | ((v,.no),σ1)=>if v.tru then F.s (Nz d 1) p l σ1 else if 2<t.kids.length then F.s (Nz d 2) p l σ1 else ((PX,.no,l),σ1)
  | ((_,e),σ1)=>((PX,e,l),σ1)
 else if t.kd=8 then X3 F d p fuel l σ
 else if t.kd=9 then match Tc F (Nz d 0) p σ with
  | ((o,.no),σ1)=>F.s (Nz d 1) { p with scope:=σ1.top } l (σ1.opn p.scope o (-2))
  | ((_,e),σ1)=>((PX,e,l),σ1)
 else if t.kd=10 then match TV F (O3 d) p σ with
  | ((v,.no),σ1)=>((⟨true,v⟩,.no,l),σ1)
  | ((v,e),σ1)=>((⟨false,v⟩,e,l),σ1)
 else if t.kd=11 then match F.v (Nz d 0) p σ with
  | ((v,.no),σ1)=>((PX,.Wq v,l),σ1)
  | ((_,e),σ1)=>((PX,e,l),σ1)
 else if t.kd=12 then
  let r:=F.s (Nz d 0) p l σ
  Za F p (O3 d).tail r.1.1 r.1.2.1 r.1.2.2 r.2
 else if t.kd=15 then match F.v (Nz d 0) p σ with
  | ((v,.no),σ1)=>((PX,.no,l.map fun _=>v),σ1)
  | ((_,e),σ1)=>((PX,e,l),σ1)
 else ((PX,.no,l),σ)
end
def fx:Nat->Fx
 | 0=>⟨fun _ _ σ=>((vU,.stop),σ),fun _ _ l σ=>((PX,.stop,l),σ)⟩
 | f+1=>⟨Yg (fx f),stF (fx f) f⟩
def Qr:St:=
 let M1:=((⟨[],[]⟩:Mo).Oy 0).scope (-1) 0
 let M2:=M1.scope 0 (-1)
 let M3:=((M2.Oy 1).put 0 Tv (Rz 1) false).2
 let M4:=((M3.Oy 2).put 0 TK (Rz 2) false).2
 ⟨M4,[],0,[],[-1,0],[],0⟩
def PY (t:Tr):Er × St:=
 let bE:=Px (some 0,t) Qr
 let r:=QC (fx 20002) bE.1 (O3 (some 0,t)) none bE.2
 (r.1.2.1,r.2)
theorem aDs (w:Ny)(a b c:NP):NJ w ((((w.alloc (.cells #[Nr 0,Nr 0,OG] 65)).setCell (Nv w.heap.size 0) a).setCell (Nv w.heap.size 1) b).setCell (Nv w.heap.size 2) c):=
 below3 OM OH a b c
theorem Yz (o:Int)(w:Ny):NK 106 #[Nr o] w fun e w'=>e=NU (vA (Rz o))/\NJ w w':=by
 go_enter func106,ntmps106
 go_wp2
 refine bodyPost_ret (v:=vA (Rz o)) (by simp[results,results106,go_sem,Rz]) rfl ⟨rfl,?_⟩;exact OM
theorem adq (o:Int)(w:Ny):NK 253 #[Nr o] w fun e w'=>e=NU (vA (VF o))/\NJ w w':=by
 go_enter func253,ntmps253
 go_wp2
 refine bodyPost_ret (v:=vA (VF o)) (by simp[results,results253,go_sem,VF]) rfl ⟨rfl,?_⟩;exact OM
theorem YA (s:NR)(w:Ny):NK 254 #[ND s] w fun e w'=>e=NU (vA (U1 s))/\NJ w w':=by
 go_enter func254,ntmps254
 go_wp2
 refine bodyPost_ret (v:=vA (U1 s)) (by simp[results,results254,go_sem,U1]) rfl ⟨rfl,?_⟩;exact OM
theorem UA (b:Bool)(w:Ny):NK 255 #[NI b] w fun e w'=>e=NU (vA (Pg b))/\NJ w w':=by
 cases b
 ·go_enter func255,ntmps255
  go_wp2
  refine bodyPost_ret (v:=vA (Pg false)) (by simp[results,results255,go_sem,Pg]) rfl ⟨rfl,?_⟩;exact OM
 ·go_enter func255,ntmps255
  go_wp2
  refine bodyPost_ret (v:=vA (Pg true)) (by simp[results,results255,go_sem,Pg]) rfl ⟨rfl,?_⟩;exact OM
theorem VH (s:NR)(w:Ny):NK 269 #[ND s] w fun e w'=>(∃ b,e=NU (.iface 122 (NM b 0))/\w.heap.size<=b/\w'.heap[b]? = some (Og #[Nr 4,Nr 0,ND s] 126))/\NJ w w':=by
 have ah:=(YA s w);go_enter func269,ntmps269;go_wp2_with fail;refine cm ah ?_;rintro e w1 ⟨rfl,D⟩;go_wp2_with fail;go_ret;refine⟨⟨w1.heap.size,rfl,D.size,?_⟩,D.alloc D.size _⟩;exact NG _ _
theorem acB (s:NR):s.toList.isEmpty=decide (s=NC):=by
 by_cases h:s=NC
 ·subst h;have ax:NC.toList=[]:=by decide +kernel
  rw[ax];simp
 ·have O:=Uw (b:=NC) (l:=[]) rfl h;rw[decide_eq_false h]
  cases hl:s.toList with
  | nil=>rw[hl] at O;cases O
  | cons _ _=>rfl
theorem VI (v:Va)(w:Ny):NK 132 #[vA v] w fun e w'=>e=NU (NI v.tru)/\NJ w w':=by
 obtain⟨k,n,s⟩:=v
 by_cases ce:k=0
 ·subst ce;go_enter func132,ntmps132
  go_wp2
  go_ret;exact⟨rfl,OM⟩
 by_cases bV:k=1
 ·subst bV;go_enter func132,ntmps132
  go_wp2
  go_ret;exact⟨rfl,OM⟩
 by_cases dB:k=2
 ·subst dB;have av:Va.tru ⟨2,n,s⟩=(n != 0):=rfl;exact apJ
 by_cases ir:k=3
 ·subst ir;have av:Va.tru ⟨3,n,s⟩=(n != 0):=rfl;exact apJ
 by_cases k4:k=4
 ·subst k4;have av:Va.tru ⟨4,n,s⟩ = !s.toList.isEmpty:=by rw[acB];rfl
  exact apJ
 have av:Va.tru ⟨k,n,s⟩=true:=by unfold Va.tru;simp[ce,bV,dB,ir,k4]
 exact apJ
def U4 (es:NP)(w:Ny)(v:NP):Er->Prop
 | .no=>v=.nilIface
 | .stop=>v=es
 | .Wq x=>∃ b,v=.iface 122 (NM b 0)/\w.heap[b]? = some (Og #[Nr x.k,Nr x.n,ND x.s] 126)
 | .mis=>v=.iface 34 (Nr 7)
section
variable {es:NP} {w w':Ny} {v:NP} {e:Er}
include es w w' v e
theorem U4.later (h:U4 es w v e)(D:NJ w w'):U4 es w' v e:=by
 cases e with
 | no=>exact h
 | stop=>exact h
 | mis=>exact h
 | Wq x=>
  obtain⟨b,h1,O⟩:=h;exact⟨b,h1,by rw[D.block b (lt_of_heap O)];exact O⟩
theorem U4.Xd {B:Nat}(h:U4 es w v e)(aG:OB Th B w w'):U4 es w' v e:=by
 cases e with
 | no=>exact h
 | stop=>exact h
 | mis=>exact h
 | Wq x=>
  obtain⟨b,h1,O⟩:=h;exact⟨b,h1,aG.rest b _ _ O NH⟩
end
theorem aki (es:NP)(n:Int)(aA:¬ (n < -1000000000\/1000000000<n))(w:Ny):NK 314 #[Nr n] w fun e w'=>(∃ ev,e=NU (.tuple #[vA (TJ n).1,ev])/\U4 es w' ev (TJ n).2)/\NJ w w':=by
 have av:TJ n=(VF n,.no):=by unfold TJ;rw[if_neg aA]
 rw[av];have h1:¬ n < -1000000000:=fun h=>aA (Or.inl h);have O:¬ n > 1000000000:=fun h=>aA (Or.inr h);have ah:Hid (∀ W,NK 253 #[Nr n] W fun e w'=>e=NU (vA (VF n))/\NJ W w'):=fun W=>adq n W;clear aA av;go_enter func314,ntmps314;go_wp2_with fail;refine cm (Ns ah _) ?_;rintro e w1 ⟨rfl,D⟩;obtain⟨dm,bT,cY,fp,nl⟩:=XH (D.mono Oq);have my:=fp 0;have mz:=fp 1;have mA:=fp 2;clear fp;go_wp2_with fail
 refine bodyPost_ret (v:=.tuple #[vA (VF n),Pe]) (by simp[results,results314,go_sem,dm,bT,cY,VF]) rfl ⟨⟨_,rfl,rfl⟩,?_⟩;exact below3 (OM.trans (D.mono Oq)) OH _ _ _
theorem ahe (es:NP)(n:Int)(aA:n < -1000000000\/1000000000<n)(w:Ny):NK 314 #[Nr n] w fun e w'=>(∃ ev,e=NU (.tuple #[vA (TJ n).1,ev])/\U4 es w' ev (TJ n).2)/\NJ w w':=by
 have av:TJ n=(vU,bad SS):=by unfold TJ;rw[if_pos aA]
 rw[av];have ah:Hid (∀ W,NK 269 #[ND SS] W fun e w'=>(∃ b,e=NU (.iface 122 (NM b 0))/\W.heap.size<=b/\w'.heap[b]? = some (Og #[Nr 4,Nr 0,ND SS] 126))/\NJ W w'):=fun W=>VH SS W;clear av;go_enter func314,ntmps314
 by_cases h1:n < -1000000000
 all_goals
  have O:n < -1000000000\/n > 1000000000:=aA;have ax:¬ n < -1000000000->n > 1000000000:=fun h=>aA.resolve_left h
  try have aU:=ax h1
  clear aA O ax;go_wp2_with fail;refine cm (Ns ah _) ?_;rintro e w1 ⟨⟨b,rfl,ja,hbk⟩,D⟩;obtain⟨dm,bT,cY,fp,nl⟩:=XH (D.mono Oq);have my:=fp 0;have mz:=fp 1;have mA:=fp 2;have f2:=hide hbk;have dV:=hide ja;clear fp hbk ja;go_wp2_with fail;refine bodyPost_ret (v:=.tuple #[vA vU,.iface 122 (NM b 0)]) (by simp[results,results314,go_sem,dm,bT,cY,vU]) rfl ⟨⟨_,rfl,b,rfl,?_⟩,?_⟩
  ·have ci:b≠w.heap.size:=by have:=Ns dV;simp at this;omega
   rw[heap_setCell_other _ _ _ _ ci,heap_setCell_other _ _ _ _ ci,heap_setCell_other _ _ _ _ ci];exact Ns f2
  ·exact below3 (OM.trans (D.mono Oq)) OH _ _ _
abbrev mR (σ:St)(aS aB az aL:NP)(af:Nat):List NP:=[aS,Nr 0,OG,Nr (σ.steps:Int),aB,.map (some af),az,aL,Nr (σ.calls:Int),Nr 0,Nr 0,Nr 1]
section
variable {H:Nat} {R:List NP} {w:Ny} {M:Mo}
include H R w M
theorem HP.cell {az aB:NP}{os b7:List NP}(h:HP H R w M az aB os b7)(j:Nat)(u:NP) :
  HP H (R.set j u) (w.setCell (Nv H (j+2)) u) M az aB os b7/\OB [84] H w (w.setCell (Nv H (j+2)) u):=by
 have D:=h.blk;have f:OB [84] H w (w.setCell (Nv H (j+2)) u):=OB.setCell (OB.of P8 (Oi (lt_of_block D))) D Oq OH _;refine⟨⟨?_,h.ob.keep f NH NH,h.ro.keep f NH NH⟩,f⟩;rw[heap_setCell_same w H (j+2) _ 84 _ D]
 congr 2
 apply Array.ext';simp
theorem OO.cell (h:OO H R w M)(j:Nat)(u:NP):OO H (R.set j u) (w.setCell (Nv H (j+2)) u) M/\OB [84] H w (w.setCell (Nv H (j+2)) u):=by
 obtain⟨az,aB,os,b7,h⟩:=h;exact⟨⟨az,aB,os,b7,(h.cell j u).1⟩,(h.cell j u).2⟩
theorem OO.at_ (h:OO H R w M)(j:Nat)(u:NP)(aT:R[j]? = some u):w.cell? (Nv H (j+2))=some u/\w.frozen? (Nv H (j+2))=false:=by
 obtain⟨az,aB,os,b7,h⟩:=h;have D:=h.blk;refine⟨?_,by simp[World.frozen?,D]⟩;simp[World.cell?,D,aT]
end
theorem amW {mb af:Nat}{σ:St}{aS aB az aL es:NP}{w:Ny}(h:OO mb (mR σ aS aB az aL af) w σ.M)(ae:σ.steps<=20000)(au:w.cell? (Nv 1 0)=some es)(aV:1<mb) :
  NK 107 #[NM mb 0] w fun e w'=>e=NU (if 20000<σ.steps+1 then es else Pe)/\OO mb (mR σ.step aS aB az aL af) w' σ.M/\OB [84] mb w w':=by
 obtain⟨Db,Dg⟩:=h.at_ 3 _ rfl;have c5:w.cell? (Nv mb 5)=some (Nr (σ.steps:Int)):=Db;have HA:w.frozen? (Nv mb 5)=false:=Dg;clear Db Dg;have hl:=h.lt;have dS:=hide (h.cell 3 (Nr ((σ.steps:Int)+1)));have bC:(mR σ aS aB az aL af).set 3 (Nr ((σ.steps:Int)+1))=mR σ.step aS aB az aL af:=rfl;rw[bC] at dS;have bV:(w.setCell (Nv mb 5) (Nr ((σ.steps:Int)+1))).cell? (Nv 1 0)=some es:=by
  rw[World.cell?_of_block (w:=w) (a:=(Nv 1 0)) (heap_setCell_other _ _ _ _ (show (1:Nat)≠mb by omega))];exact au
 have eR:1<w.heap.size:=Nw;clear h au bC
 by_cases bF:20000<σ.steps+1
 ·rw[if_pos bF];have ay:(σ.steps:Int)+1 > 20000:=Nw;clear bF
  generalize σ.steps=n at *
  go_enter func107,ntmps107;go_wp2_with fail;go_ret;exact⟨rfl,dS.out⟩
 ·rw[if_neg bF];have ay:¬ (σ.steps:Int)+1 > 20000:=Nw;clear bF
  generalize σ.steps=n at *
  go_enter func107,ntmps107;go_wp2_with fail;go_ret;exact⟨rfl,dS.out⟩
end Hp
end Go.Proofs.YticfnaiehdpbmaaGreatDoor
