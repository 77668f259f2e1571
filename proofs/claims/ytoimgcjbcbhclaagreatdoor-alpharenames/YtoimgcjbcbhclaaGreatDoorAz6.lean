import Derived.Test.YtoimgcjbcbhclaaGreatDoorRows
import Derived.LaidMore
import Derived.Test.YtoimgcjbcbhclaaGreatDoorAz4
import Derived.Deep.DrawnRows
import Derived.LaidEql
import Derived.Stop.Asserts
import Derived.RowKitTokens
import Derived.WalkSmall
import Derived.Deep.QuietTactic
import Derived.BigQuiet
set_option maxRecDepth 100000
set_option maxHeartbeats 0
set_option linter.all false
namespace Go.Proofs.YtoimgcjbcbhclaaGreatDoor
open Go.RowKit Go.Proofs.Tryz
section
open Go.ChangeShapes Go.WideShapes Go.ChangeAt Go.WideMaps Go.WideElems Go.RowKit
def aFo:ownKnob Tryz.prog.godebug=none:=by kernel_rfl
def am8 : Tryz.prog.globalNamed "sloppyscope/lex.words" = some 6 := by kernel_rfl
def akE : Tryz.prog.globalNamed "sloppyscope/sloppyref.words" = some 4 := by kernel_rfl
def am9 : Tryz.prog.globalNamed "sloppyscope/lex.signs" = some 5 := by kernel_rfl
def asN:(Tryz.prog.globals[6]?).map (·.type)=some 257:=by kernel_rfl
def akF:(Tryz.prog.globals[4]?).map (·.type)=some 38:=by kernel_rfl
def asO:(Tryz.prog.globals[5]?).map (·.type)=some 257:=by kernel_rfl
def cells9:Tryz.prog.cellsOf 9=1:=by kernel_rfl
def cells53:Tryz.prog.cellsOf 257=19:=by kernel_rfl
def Xy {L:World}{fuel:Nat}{bl:List Value}{p:List MemPlace}(ah:List (List UInt8))(bm:ah.length=19)
  (h:DataW.trod (λ_=>()) Tryz.prog L 0 (λ_=>true) false fuel 257 bl=some (.agg (ah.map λl=>.lit (.string l)),p)):bl=(ah.map ofBytes).map Value.string:=by
 obtain⟨bQ,m,rfl,af,hlen,av,kZ⟩:=DataW.trod_array Tryz.underlying257 h;simp only[zaleb,zaler] at af;rw[cells53] at hlen;refine List.ext_getElem (by simp[bm,hlen]) λi E O=>?_;have ak:i<19:=by omega
 have he:=kZ i ak;rw[cells9,Nat.mul_one,zalai (by omega)] at he;obtain⟨s,aW,a4,_⟩:=DataW.trod_string zaldk he;have bO:(bQ.map (·.1))[i]'(by simp[av];omega)=.lit (.string (ah[i]'(by omega))):=by
  have ew:(bQ.map (·.1))[i]? =(ah.map λl=>(DataW.lit (.string l):DataW Unit))[i]?:=by rw[af.1]
  rw[zalai (by simp[av];omega),zalai (by simp;omega)] at ew
  simpa using ew
 rw[zalcx,a4] at bO;have fA:s.data.toList=ah[i]'(by omega):=by simpa using bO
 have hb:(bl.drop i)[0]? = some (.string s):=by
  have:((bl.drop i).take 1)[0]? = some (.string s):=by rw[aW];rfl
  simpa using this
 rw[zalgz,Nat.add_zero,zalai E] at hb;rw[zalbo hb];simp[XV fA]
def Va {L:World}{n:String}{g:Nat}{bl:Array Value}(hg:Tryz.prog.globalNamed n=some g)(h:L.var? Tryz.prog n=some bl):∃ t fr,L.heap[g]? = some (.cells bl t fr):=by
 simp only[World.var?,hg,Option.bind_some] at h
 split at h
 ·rename_i I6 t fr a2
  cases h;exact⟨t,fr,a2⟩
 ·
  cases h
def abT {L:World}{fuel:Nat}{bl:List Value}{p:List MemPlace}(ah:List (List UInt8))
  (h:DataW.trod (λ_=>()) Tryz.prog L 0 (λ_=>true) false fuel 38 bl=some (.slice (ah.map λl=>.lit (.string l)) [],p)) :
  ∃ a cap,bl=[.slice (some a) ah.length cap]/\∀ i,i<(ah.map ofBytes).length->L.cell? (a.add i)=some (.string ((ah.map ofBytes).getD i ByteArray.empty)):=by
 rcases open_strings Tryz.underlying38 zaldk cells9 h with ⟨_,af⟩|⟨a,len,cap,wq,f7,_,ab,_,b5,af,hcell,_⟩
 ·simp at af
 simp only[zaleh] at b5;simp only[zaleb,DataW.slice.injEq] at af;obtain⟨⟨jk,m8⟩,_⟩:=af;have y5:wq.length=len:=by
  have:(strs (H:=Unit) (wq.drop len)).length=0:=by rw[<-m8];rfl
  simp[strs] at this;omega
 rw[zalcv (by omega)] at jk;have y7:wq=ah.map ofBytes:=by
  refine List.ext_getElem (by have:=zaldg List.length jk;simpa[strs] using this.symm) λi E O=>?_
  have ew:(ah.map λl=>(DataW.lit (.string l):DataW Unit))[i]? =(strs wq)[i]?:=by rw[jk]
  simp only[zalag] at O;simp[strs,E,O] at ew;rw[zalcx];exact XV ew.symm
 refine⟨a,cap,?_,?_⟩
 ·rw[f7];have:ah.length=len:=by have:=zaldg List.length y7;simp at this;omega
  rw[this]
 ·intro i ak;rw[<-y7];exact hcell i (by rw[y7];exact ak)
end
section
attribute [local go_sem ↓] Go.wp_at_zero Go.wp_at_succ
def Xu (s:LW)(E:1<=s.size):s.toList.isEmpty=false:=ayN
section
variable {P:Program} {ops:Array Oper} {Q:Exit->Act->LK->Prop} {bU:Region.Mode}
def TF {i:Nat}{dy:Oper}{fuel:Nat}{listed:Array Bool}{a:Act}{w:LK}(ak:ops[i]? = some dy)
  (W:Region.noSelect ops=true) (an:Region.free bU ops listed i=true) (T:(Region.ready bU ops listed).contains i=true)
  (c':∀ c a w,Q (.panic c) (a.put dy.dst undef) w->Q (.panic c) a w) (hy:Region.wanted dy (yielded ops a.tmps)=false)
  (h:wpAny P bU ops Q fuel (listed.setIfInBounds i true) (a.put dy.dst undef) w):wpAny P bU ops Q (fuel+1) listed a w:=
 wpAny_take (v:=undef) ak W an T c' (zalal ⟨hy,rfl⟩) h
end
def agj (s:LW)(w:LK)(E:1<=s.size)(O:s.size<=20)(ab:Sm (s[0].toNat:Int)=false) :
  MC 219 #[LQ s] w λe w'=>e=MN (L9 false)/\LX w w':=by
 have he:=Xu s E;have hpos:0<s.size:=E;have cQ:=hide ab;clear ab;have br{G}(h:G:=by
 refine wt 4 (L9 false) ?_;refine TF (i:=5) rfl Nw Nw Nw (λ_ _ _ h=>h) Nw ?_;refine TF (i:=6) rfl Nw Nw Nw (λ_ _ _ h=>h) Nw ?_;refine TF (i:=7) rfl Nw Nw Nw (λ_ _ _ h=>h) Nw ?_;refine TF (i:=8) rfl Nw Nw Nw (λ_ _ _ h=>h) Nw ?_;refine TF (i:=9) rfl Nw Nw Nw (λ_ _ _ h=>h) Nw ?_;refine TF (i:=10) rfl Nw Nw Nw (λ_ _ _ h=>h) Nw ?_;refine aCs ?_
 go_wp2
 go_ret;exact⟨rfl,O4.drew.trans ba.out⟩):=LG h;exact ztl
def agk (s:LW)(w:LK)(W:s.size<=maxLen)(E:1<=s.size)(O:s.size<=20)(ab:Sm (s[0].toNat:Int)=true)(ae:(((MH OL s 0:Nat):Int)==(s.size:Int))=false) :
  MC 219 #[LQ s] w λe w'=>e=MN (L9 false)/\LX w w':=by
 have he:=Xu s E;have hpos:0<s.size:=E;have cQ:=hide ab;have aF:=hide W;clear ab W;have A{G}(h:G:=by
 refine wt 10 (L9 false) ?_;refine aCs ?_
 go_wp2
 go_ret;exact⟨rfl,O4.drew.trans (ba.out.trans (bj.out.mono ba.out.size))⟩):=LG h;exact az8
def agl (aj:List LW)(s:LW)(w:LK)(W:s.size<=maxLen)(E:1<=s.size)(O:s.size<=20)(ab:Sm (s[0].toNat:Int)=true)(ae:(((MH OL s 0:Nat):Int)==(s.size:Int))=true)
  (av:aj.length=19) (t:TypeId) (fr:Nat × Nat) (hg:w.heap[6]? = some (.cells (aj.map Value.string).toArray t fr)) :
  MC 219 #[LQ s] w λe w'=>e=MN (L9 (!isIn aj s))/\LX w w':=by
 have he:=Xu s E;have hpos:0<s.size:=E;have cQ:=hide ab;have aF:=hide W;have f3:=hide hg;have b3:=hide av;clear ab W hg av;have A{G}(h:G:=by
 refine wt 10 (L9 true) ?_;refine wt 11 (L9 true) ?_;refine wt 12 (L9 true) ?_;refine wt 13 (LQ s) ?_;refine O7 14 λK U=>?_;go_simp;have D:LX w bh:=O4.drew.trans (ba.out.trans (bj.out.mono ba.out.size));have aV:=hide D;have aC:6<w.heap.size:=(zalbv.1 f3.out).1;refine(aa6 aj s bh b3.out t fr (by rw[D.block 6 aC];exact f3.out)).mono ?_
 rintro e bn ⟨rfl,rfl⟩;refine U _ _ ?_;clear U K;refine wt 15 (L9 (!isIn aj s)) ?_;refine wt 16 (L9 (!isIn aj s)) ?_;refine wt 17 (L9 (!isIn aj s)) ?_;refine aad ?_
 go_wp2
 go_ret;exact⟨rfl,aV.out⟩):=LG h;exact az8
def aea (s:LW)(w:LK)(E:s.size=0) :
  MC 219 #[LQ s] w λe w'=>e=MN (L9 false)/\w'=w:=by
 have he:s.toList.isEmpty=true:=by
  rw[zaldf];have ao:s.size=s.data.toList.length:=by simp
  rw[List.isEmpty_iff_length_eq_zero];omega
 clear E;go_enter func219,ntmps219
 go_wp2
 go_ret;exact⟨rfl,rfl⟩
def agm (s:LW)(w:LK)(E:20<s.size) :
  MC 219 #[LQ s] w λe w'=>e=MN (L9 false)/\w'=w:=by
 have he:=Xu s LM;go_enter func219,ntmps219
 go_wp2
 go_ret;exact⟨rfl,rfl⟩
def nameB (aj:List LW)(s:LW):Bool:=
 decide (1<=s.size)&&(decide (s.size<=20)&&(Sm (((s.data.toList.getD 0 0).toNat:Nat):Int)&&((((MH OL s 0:Nat):Int)==(s.size:Int)) && !isIn aj s)))
def agn (s:LW)(h:1<=s.size):s.data.toList.getD 0 0=s[0]:=by
 have ao:0<s.data.toList.length:=by (have aM:s.data.toList.length=s.size:=by simp);omega
 rw[zalay,zalai ao];rfl
def aix (aj:List LW)(s:LW)(w:LK)(W:s.size<=maxLen)
  (av:aj.length=19) (t:TypeId) (fr:Nat × Nat) (hg:w.heap[6]? = some (.cells (aj.map Value.string).toArray t fr)) :
  MC 219 #[LQ s] w λe w'=>e=MN (L9 (nameB aj s))/\LX w w':=by
 by_cases E:1<=s.size
 ·by_cases O:s.size<=20
  ·have a2:=agn s E
   cases ab:Sm (s[0].toNat:Int)
   ·have e:nameB aj s=false:=by unfold nameB;rw[a2,ab];simp
    rw[e];exact agj s w E O ab
   ·
    cases ae:(((MH OL s 0:Nat):Int)==(s.size:Int))
    ·have e:nameB aj s=false:=by unfold nameB;rw[a2,ab,ae];simp
     rw[e];exact agk s w W E O ab ae
    ·have e:nameB aj s = !isIn aj s:=by unfold nameB;rw[a2,ab,ae];simp[E,O]
     rw[e];exact agl aj s w W E O ab ae av t fr hg
  ·have e:nameB aj s=false:=by simp[nameB,O]
   rw[e];exact(agm s w LM).mono (λ_ _ ⟨a,b⟩=>⟨a,b ▸ O4⟩)
 ·have e:nameB aj s=false:=by simp[nameB,E]
  rw[e];exact(aea s w LM).mono (λ_ _ ⟨a,b⟩=>⟨a,b ▸ O4⟩)
def ac0 (p:Int->Bool)(s:LW)(h:∀ i,(ak:i<s.size)->p (s[i].toNat:Int)=true):∀ n k,n+k=s.size->MH p s k=s.size
 | 0,k,e=>by rw[RS p s k LM];omega
 | n+1,k,e=>by rw[<-Qz p s k LM (h k LM)];exact ac0 p s h n (k+1) LM
def agp (p:Int->Bool)(s:LW)(i:Nat)(ak:i<s.size)(ae:p (s[i].toNat:Int)=false):∀ n k,n+k=i->MH p s k≠s.size
 | 0,k,e=>by
  have ha:k=i:=LM;subst ha;rw[Qa p s k ak ae];omega
 | n+1,k,e=>by
  cases N:p ((s[k]'LM).toNat:Int)
  ·rw[Qa p s k LM N];omega
  ·rw[<-Qz p s k LM N];exact agp p s i ak ae n (k+1) LM
def YD (s:LW)(i:Nat):Bool:=Sm (((s.data.toList.getD i 0).toNat:Nat):Int)||(i != 0&&Nl (((s.data.toList.getD i 0).toNat:Nat):Int))
def aiz (s:LW)(i:Nat)(h:i<s.size):s.data.toList.getD i 0=s[i]:=ayV
def agq (aj:List LW)(s:LW)(i:Nat)(ak:i<s.size)(h:YD s i=false):nameB aj s=false:=by
 unfold YD at h;rw[aiz s i ak,Bool.or_eq_false_iff] at h;obtain⟨ab,h⟩:=h
 by_cases aJ:i=0
 ·subst aJ;unfold nameB;rw[agn s ak,ab];simp
 ·have aD:Nl (s[i].toNat:Int)=false:=by simpa[aJ] using h
  have ae:=agp OL s i ak (by unfold OL;rw[ab,aD];rfl) i 0 rfl
  have vW:(((MH OL s 0:Nat):Int)==(s.size:Int))=false:=zalaj.2 LM;unfold nameB;rw[vW];simp
def al2 (aj:List LW)(s:LW)(h:∀ i,i<s.size->YD s i=true):nameB aj s=(decide (1<=s.size)&&(decide (s.size<=20) && !isIn aj s)):=by
 by_cases E:1<=s.size
 ·have aJ:=h 0 E;unfold YD at aJ;have ab:Sm (((s.data.toList.getD 0 0).toNat:Nat):Int)=true:=by simpa using aJ
  have ae:=ac0 OL s (λi ak=>by
   have:=h i ak;unfold YD at this;rw[aiz s i ak] at this;unfold OL
   cases ab:Sm (s[i].toNat:Int)
   ·rw[ab] at this;simp at this;simp[this.2]
   ·rfl) s.size 0 rfl
  unfold nameB;rw[ab,ae];simp
 ·simp[nameB,E]
def XF (a:Addr)(cap:Nat)(aj:List LW)(s:LW)(w:LK)(W:s.size<=maxLen)(av:aj.length=19)
  (hg:w.cell? (LD 4 0)=some (.slice (some a) 19 cap))
  (am:∀ i,i<aj.length->w.cell? (a.add i)=some (LQ (aj.getD i ByteArray.empty))) :
  MC 78 #[LQ s] w λe w'=>e=MN (L9 (nameB aj s))/\w'=w:=by
 unfold maxLen at W;have ag:=hide (XG a cap aj s w av hg am);clear am av hg;go_enter func78,ntmps78
 go_wp2
 go_loopw [3,6] (λ_ i wr=>∃ k:Nat,k<=s.size/\i=LJ k/\(∀ j,j<k->YD s j=true)/\wr=w) (λ_ i _=>s.size - (intOf i).toNat)
 case atStart=>exact⟨0,zalae _,rfl,λj aT=>absurd aT (zalep _),rfl⟩
 case round=>
  obtain⟨k,N,rfl,he,rfl⟩:=hrel;have cG:=hide he;clear he
  by_cases aC:k<s.size
  ·have fU:=aiz s k aC
   cases ab:Sm (s[k].toNat:Int)
   ·by_cases aJ:k=0
    ·have D:YD s k=false:=by unfold YD;rw[fU,ab];simp[aJ]
     have aV:=hide (agq aj s k aC D);have cQ:=hide ab;have hk:((k:Int)==0)=true:=by simp[aJ]
     clear D fU ab aJ;go_wp2_with fail;refine alK ?_;rw[cQ.out];rintro e w' ⟨rfl,rfl⟩;go_wp2;go_ret;exact⟨Oy aV.out.symm,rfl⟩
    ·have hk:((k:Int)==0)=false:=by simp[aJ]
     cases aD:Nl (s[k].toNat:Int)
     ·have D:YD s k=false:=by unfold YD;rw[fU,ab,aD];simp
      have aV:=hide (agq aj s k aC D);have A{G}(h:G:=by
      rw[f2.out];rintro e w' ⟨rfl,rfl⟩;go_wp2;go_ret;exact⟨Oy aV.out.symm,rfl⟩):=LG h;exact aCh
     ·have D:YD s k=true:=by unfold YD;rw[fU,ab,aD];simp[aJ]
      have aV:=hide D;have A{G}(h:G:=by
      rw[f2.out];exact ayE):=LG h;exact aCh
   ·have D:YD s k=true:=by unfold YD;rw[fU,ab];rfl
    have aV:=hide D;have cQ:=hide ab;clear D fU ab;go_wp2_with fail;refine alK ?_;rw[cQ.out];exact ayE
  ·have hgood:=al2 aj s (λi ak=>Lu cG i LM);have f3:=hide hgood;clear hgood
   by_cases E:1<=s.size
   ·by_cases O:s.size<=20
    ·go_wp2_with fail;refine ag.out.mono ?_;rintro e w' ⟨rfl,rfl⟩;go_wp2;go_ret;exact⟨Oy (by rw[f3.out];simp[E,O]),rfl⟩
    ·go_wp2;go_ret;exact⟨Oy (by rw[f3.out];simp[O]),rfl⟩
   ·go_wp2;go_ret;exact⟨Oy (by rw[f3.out];simp[E]),rfl⟩
end
def OO {α:Type}(r pz:PR α):Prop:=∀ x j,r=.ok x j->pz=.ok x j\/pz=.out
def OO.refl {α:Type}(r:PR α):OO r r:=λ_ _ h=>zalad h
def OO.out {α:Type}(r:PR α):OO r .out:=λ_ _ _=>zalal rfl
def OO.bad {α:Type}{r:PR α}{er:Int}{p:Nat}:OO (.bad er p) r:=λ_ _ h=>by cases h
def OO.bind {α β:Type}{r pz:PR α}{f di:α->Nat->PR β}(h:OO r pz)(an:∀ x j,OO (f x j) (di x j)):OO (r.bind f) (pz.bind di):=by
 intro x j e
 cases r with
 | ok y k=>
  rcases h y k rfl with E|E
  ·rw[E];exact an y k x j e
  ·rw[E];exact zalal rfl
 | bad er p=>cases e
 | out=>cases e
def OO.SS {α β:Type}{r:PR α}{f di:α->Nat->PR β}(an:∀ x j,OO (f x j) (di x j)):OO (r.bind f) (r.bind di):=OO.bind (OO.refl r) an
structure aiI (F G:OQ):Prop where
 st:∀ d i,OO (F.st d i) (G.st d i)
 vl:∀ d i,OO (F.vl d i) (G.vl d i)
 pr:∀ b d i,2<=b->b<=8->OO (F.pr b d i) (G.pr b d i)
 sg:∀ d i,OO (F.sg d i) (G.sg d i)
def Xi {α β:Type}{r:PR α}{f:α->Nat->PR β}{x:β}{j:Nat}(h:r.bind f=.ok x j):∃ y k,r=.ok y k/\f y k=.ok x j:=by
 cases r with
 | ok y k=>exact⟨y,k,rfl,h⟩
 | bad er p=>cases h
 | out=>cases h
section
variable {l:List Tk}
def QB {f g:Nat->Nat->PR Tr}{d i:Nat}(h:OO (f (d+1) i) (g (d+1) i)):OO (MO l f d i) (MO l g d i):=by
 unfold MO
 split
 ·exact OO.refl _
 ·exact h
def ace {F G:OQ}(h:aiI F G)(d:Nat):∀ n eV au i,OO (NM l F d n au i) (NM l G d eV au i):=by
 intro n
 induction n with
 | zero=>intro eV au i x j e;cases e
 | succ n aU=>
  intro eV au i
  cases eV with
  | zero=>exact OO.out _
  | succ eV=>
   unfold NM
   split
   ·exact OO.refl _
   ·exact OO.bind (QB (h.st _ _)) λt az=>aU eV _ az
def U1 {F G:OQ}(h:aiI F G)(d i:Nat):OO (MV l F d i) (MV l G d i):=by
 unfold MV;exact OO.SS λ_ az=>OO.bind (ace h d _ _ [] az) λts aX=>OO.refl _
def acf {shut:LW}{begins:Nat->Bool}{part part':Nat->PR Tr}(ae:∀ i,OO (part i) (part' i)) :
  ∀ n eV au i,au.length≠0->∀ x j,Og l shut part n au i=.ok x j ->
   (if fx l i=shut then PR.ok au (i+1) else (MG l Uw i).bind λ_ aX=>O5 l shut begins part' eV au aX)=.ok x j \/
   (if fx l i=shut then PR.ok au (i+1) else (MG l Uw i).bind λ_ aX=>O5 l shut begins part' eV au aX)=.out:=by
 intro n
 induction n with
 | zero=>intro eV au i _ x j e;cases e
 | succ n aU=>
  intro eV au i aa x j e;unfold Og at e
  split at e
  ·rename_i an
   rw[zalak an];exact zalad e
  ·rename_i an
   rw[zalah an];obtain⟨_,az,aW,a4⟩:=Xi e;rw[aW]
   split at a4
   ·
    cases a4
   ·rename_i dp
    obtain⟨t,aX,bO,ew⟩:=Xi a4;change O5 l shut begins part' eV au az=.ok x j\/O5 l shut begins part' eV au az=.out
    cases eV with
    | zero=>exact zalal rfl
    | succ eV=>
     unfold O5;rw[zalah (λh=>dp h.1)]
     rcases ae az t aX bO with E|E
     ·rw[E];exact aU eV (au++[t]) aX MP x j ew
     ·rw[E];exact zalal rfl
def Zn {opn shut:LW}{begins:Nat->Bool}{part part':Nat->PR Tr}(ae:∀ i,OO (part i) (part' i))(n eV i:Nat) :
  OO ((MG l opn i).bind λ_ az=>Og l shut part n [] az) (TP l opn shut begins part' eV i):=by
 unfold TP;refine OO.SS λ_ az=>?_;intro x j e
 cases n with
 | zero=>cases e
 | succ n=>
  unfold Og at e
  split at e
  ·rename_i an
   rw[zalak an];exact zalad e
  ·rename_i an
   rw[zalah an];rw[zalak (by rfl)] at e;have ha:(part az).bind (λt aX=>Og l shut part n ([]++[t]) aX)=.ok x j:=e;obtain⟨t,aX,bO,ew⟩:=Xi ha
   cases eV with
   | zero=>exact zalal rfl
   | succ eV=>
    unfold O5;rw[zalah (λh=>by cases h.1)]
    rcases ae az t aX bO with E|E
    ·rw[E];exact acf ae n eV ([]++[t]) aX MP x j ew
    ·rw[E];exact zalal rfl
def ZP {α β γ:Type}(r:PR α)(f:α->Nat->PR β)(g:β->Nat->PR γ):(r.bind f).bind g=r.bind λx j=>(f x j).bind g:=by cases r <;> rfl
def aej {F G:OQ}(i:Nat):OO (VO l F i) (Qc l G i):=by
 unfold VO Qc;rw[<-ZP];exact OO.bind (Zn (λ_=>OO.refl _) _ _ _) λ_ _=>OO.refl _
section
variable {F G:OQ} (h:aiI F G)
include F G h
def al9 (d i:Nat):OO (Rq l F d i) (Rq l G d i):=by
 unfold Rq;exact OO.SS λ_ _=>OO.SS λ_ aX=>OO.bind (QB (h.vl _ _)) λ_ _=>OO.refl _
def aek (d i:Nat):OO (U2 l F d i) (RP l G d i):=by
 unfold U2 RP;rw[<-ZP];exact OO.bind (Zn (λi=>al9 h d i) _ _ _) λ_ _=>OO.refl _
def Vq (kd:Int)(s:LW)(d i:Nat):OO (P7 l F kd s d i) (PI l G kd s d i):=by
 unfold P7 PI;exact OO.bind (aej i) λ_ az=>OO.bind (U1 h d az) λ_ _=>OO.refl _
def ael (d i:Nat):OO (U3 l F d i) (RQ l G d i):=by
 unfold U3 RQ;refine OO.SS λ_ az=>?_
 split
 ·exact OO.SS λ_ _=>Vq h _ _ _ _
 ·exact Vq h _ _ _ _
def aiJ (d i:Nat):OO (X7 l F d i) (VF l G d i):=by
 unfold X7 VF;exact OO.SS λ_ az=>OO.SS λ_ _=>Vq h _ _ _ _
def X8 (d i:Nat):OO (Px l F d i) (Px l G d i):=by
 unfold Px;exact OO.SS λ_ az=>OO.bind (QB (h.vl _ _)) λ_ _=>OO.refl _
end
def ajS {i:Nat}(O:(MJ l i).kd≠2)(bw:(MJ l i).kd≠5):fx l i=LH:=by
 unfold fx;rw[zalah (by simp[O,bw])]
def arG {x:LW}(h:0<abm x):∃ s,SA 0 x=some s/\s.kd=abm x/\Np PV x=none:=by
 unfold abm Np at h ⊢
 cases an:lits.find? (λe=>decide (x=e.1)) with
 | none=>rw[an] at h;exact absurd h MK
 | some e=>
  have E:=zaldw an;have O:=zalbc an;have af:x=e.1:=by simpa using E
  have key:∀ e ∈ lits,∃ s,SA 0 e.1=some s/\s.kd=e.2/\(PV.find? (λy=>decide (e.1=y.1))).map (·.2)=none:=by
   intro e he
   rcases zalas.1 he with rfl|he
   ·exact⟨_,rfl,rfl,rfl⟩
   rcases zalas.1 he with rfl|he
   ·exact⟨_,rfl,rfl,rfl⟩
   rcases zalas.1 he with rfl|he
   ·exact⟨_,rfl,rfl,rfl⟩
   rcases zalas.1 he with rfl|he
   ·exact⟨_,rfl,rfl,rfl⟩
   cases he
  obtain⟨s,a9,bD,b8⟩:=key e O;exact⟨s,by rw[af];exact a9,by simpa using bD,by rw[af];exact b8⟩
def agI {F G:OQ}(h:aiI F G)(d i:Nat):OO (Vh l F d i) (Qx l G d i):=by
 have kn:Np PV LH=none:=by decide +kernel
 have Iy:SA 0 LH=none:=by decide +kernel
 unfold Vh
 split
 ·rename_i N
  have A{G}(h:G:=by
  rw[zalak N];exact OO.refl _):=LG h;exact auJ
 ·rename_i E
  split
  ·rename_i N
   have A{G}(h:G:=by
   rw[zalah E,zalah (by rw[N];decide),zalak N]
   exact OO.refl _):=LG h;exact auJ
  ·split
   ·rename_i ao N
    have A{G}(h:G:=by
    rw[zalah E,zalak N];exact OO.refl _):=LG h;exact auJ
   ·split
    ·rename_i an
     have k0:Np PV NZ=some 0:=by decide +kernel
     unfold Qx;rw[an,k0];exact X8 h d i
    ·split
     ·rename_i an
      have k0:Np PV MI=some 2:=by decide +kernel
      unfold Qx;rw[an,k0];exact ael h d i
     ·split
      ·rename_i an
       have k0:Np PV Nc=some 1:=by decide +kernel
       unfold Qx;rw[an,k0];exact aek h d i
      ·split
       ·rename_i N
        have an:fx l i=(MJ l i).tx:=by unfold fx;rw[zalak (by simp[N.1])]
        obtain⟨s,a9,bD,b8⟩:=arG N.2;unfold Qx;rw[an,b8,a9];simp only;rw[bD];exact OO.refl _
       ·exact OO.bad
def abn {F G:OQ}(h:aiI F G)(d:Nat):∀ n eV t i,OO (PO l F d n t i) (Py l G d eV t i):=by
 intro n
 induction n with
 | zero=>intro eV t i x j e;cases e
 | succ n aU=>
  intro eV t i
  cases eV with
  | zero=>exact OO.out _
  | succ eV=>
   unfold PO Py
   split
   ·exact OO.SS λ_ _=>aU eV _ _
   ·split
    ·rename_i an
     have aA:MG l NZ i=.ok () (i+1):=by unfold MG;rw[zalak an]
     have T:aem l F d (i+1)=(MG l NZ i).bind λ_ az=>Og l OX (Y1 l F d) F.fuel [] az:=by rw[aA];rfl
     rw[T];exact OO.bind (Zn (λi=>QB (h.vl _ _)) _ _ _) λ_ _=>aU eV _ _
    ·exact OO.refl _
section
variable {F G:OQ} (h:aiI F G) (d i:Nat)
include F G h d i
def agJ:OO (Wl l F d i) (Rt l G d i):=by
 unfold Wl Rt;exact OO.bind (agI h d i) λt az=>abn h d _ _ t az
def aen:OO (Um l F d i) (QS l G d i):=by
 unfold Um QS
 cases SA 1 (fx l i) with
 | some s=>exact OO.bind (QB (h.sg _ _)) λ_ _=>OO.refl _
 | none=>exact agJ h d i
def aiK:OO (Ru l F d i) (Ru l G d i):=by
 unfold Ru;refine OO.bind (h.pr 2 d i MK MK) λt az=>?_
 split
 ·exact atN
 ·exact OO.refl _
def ama:OO (VG l F d i) (VG l G d i):=by
 unfold VG;exact OO.bind (QB (h.vl _ _)) λ_ _=>OO.refl _
def amb:OO (UA l F d i) (UA l G d i):=by
 unfold UA;refine OO.SS λs az=>?_
 split
 ·exact OO.refl _
 ·exact atN
def agK:OO (Pj l F d i) (Pj l G d i):=by
 unfold Pj;exact OO.bind (X8 h d _) λ_ _=>OO.bind (QB (h.st _ _)) λ_ _=>OO.refl _
def agL:OO (Qp l F d i) (Qp l G d i):=by
 unfold Qp;refine OO.bind (X8 h d _) λ_ _=>OO.bind (QB (h.st _ _)) λ_ _=>?_
 split
 ·exact OO.bind (QB (h.st _ _)) λ_ _=>OO.refl _
 ·exact OO.refl _
def agM:OO (Qm l F d i) (Qm l G d i):=by
 unfold Qm;exact atN
def aiL:OO (QX l F d i) (QX l G d i):=by
 unfold QX
 split
 ·exact OO.SS λ_ _=>OO.SS λ_ _=>OO.SS λ_ _=>OO.bind (U1 h d _) λ_ _=>OO.refl _
 ·exact OO.refl _
def aeo:OO (Oh l F d i) (Oh l G d i):=by
 unfold Oh
 split
 ·exact OO.bind (U1 h d _) λ_ _=>OO.refl _
 ·exact OO.refl _
def aep:OO (Qy l F d i) (Qy l G d i):=by
 unfold Qy;exact OO.SS λ_ _=>OO.bind (U1 h d _) λ_ _=>OO.bind (aiL h d _) λ_ _=>OO.bind (aeo h d _) λ_ _=>OO.refl _
def aai:OO (Pg l F d i) (O1 l G d i):=by
 unfold Pg O1
 cases Np PG (fx l i) with
 | none=>exact ama h d i
 | some q=>
  show OO (X9 l F d q i) (VH l G d q i)
  match q with
  | 0=>exact amb h d i
  | 1=>exact aiJ h d i
  | 2=>exact U1 h d i
  | 3=>exact OO.refl _
  | 4=>exact agL h d i
  | 5=>exact agK h d i
  | 6=>exact agM h d i
  | _+7=>exact aep h d i
end
def aEx (l:List Tk):Prop:=∀ i,(MJ l i).kd=2->SA 2 (MJ l i).tx=none
def aj9 (l:List Tk)(b:Int)(j:Nat):Prop:=∀ s,SA 2 (fx l j)=some s->s.str<b
def amc (b:Nat):LW:=lvls.getD (b - 2) LH
def agN {x:LW}{s:Sg}(h:SA 2 x=some s):s ∈ YU/\s.parts=2/\x=s.tx:=by
 unfold SA at h;rw[zaldu] at h;obtain⟨E,O⟩:=h;unfold Xx at E;exact⟨zalbc E,by simpa using O,by simpa using zaldw E⟩
def arH:∀ b,2<=b->b<=7->∀ x,x≠tPM->WA (amc b) x=true->∃ s,SA 2 x=some s/\s.str=(b:Int)/\s.kd=opK x:=by
 intro b E O x af h;have D:b=2\/b=3\/b=4\/b=5\/b=6\/b=7:=LM;unfold WA at h
 rcases D with rfl|rfl|rfl|rfl|rfl|rfl
 ·have:x=tOr:=by have cH:(decide (x=tOr)||false)=true:=h;simpa using cH
  subst this;exact⟨_,rfl,rfl,rfl⟩
 ·have:x=adI:=by have cH:(decide (x=adI)||false)=true:=h;simpa using cH
  subst this;exact⟨_,rfl,rfl,rfl⟩
 ·have:x=Yp:=by have cH:(decide (x=Yp)||false)=true:=h;simpa using cH
  subst this;exact⟨_,rfl,rfl,rfl⟩
 ·have:x=Yq:=by have cH:(decide (x=Yq)||false)=true:=h;simpa using cH
  subst this;exact⟨_,rfl,rfl,rfl⟩
 ·have cH:(decide (x=tPM)||(true&&(decide (x=aaH)||decide (x=abZ))))=true:=h;simp only[zaleo,zaldh,zaldx] at cH
  rcases cH with cH|cH|cH
  ·exact absurd cH af
  all_goals
   subst cH;exact⟨_,rfl,rfl,rfl⟩
 ·have:x=adJ:=by have cH:(decide (x=adJ)||false)=true:=h;simpa using cH
  subst this;exact⟨_,rfl,rfl,rfl⟩
def akc {x:LW}{s:Sg}(h:SA 2 x=some s):2<=s.str/\s.str<=7/\WA (amc s.str.toNat) x=true:=by
 obtain⟨E,O,ao⟩:=agN h;have key:∀ s ∈ YU,s.parts=2->2<=s.str/\s.str<=7/\WA (amc s.str.toNat) s.tx=true:=by decide +kernel
 rw[ao];exact key s E O
def aEy (l:List Tk):Prop:=∀ i,(MJ l i).kd=5->(MJ l i).tx≠tPM
def Reach (l:List Tk)(G:OQ)(d:Nat)(b:Int)(t:Tr)(i:Nat)(x:Tr)(j:Nat):Prop:=
 ∀ n,(∃ m,OY l G b d n t i=OY l G b d m x j)\/OY l G b d n t i=.out
section
variable {G:OQ} {d:Nat} {b:Int}
include G d b
def Reach.refl (t:Tr)(i:Nat):Reach l G d b t i t i:=λn=>zalad ⟨n,rfl⟩
def Reach.trans {t x y:Tr}{i j k:Nat}(h:Reach l G d b t i x j)(O:Reach l G d b x j y k):Reach l G d b t i y k:=by
 intro n
 rcases h n with ⟨m,e⟩|e
 ·rw[e];exact O m
 ·exact zalal e
def Reach.step {t u:Tr}{i j:Nat}{s:Sg}(W:SA 2 (fx l i)=some s)(D:b<=s.str)(aS:G.pr (s.str+1) d (i+1)=.ok u j):Reach l G d b t i (.mk s.kd LH 0 [t,u]) j:=by
 intro n
 cases n with
 | zero=>exact zalal rfl
 | succ n=>
  refine zalad ⟨n,?_⟩
  conv=>lhs;unfold OY
  rw[W];simp only;rw[zalah LM,aS];rfl
def Reach.stuck {t:Tr}{i:Nat}{s:Sg}(W:SA 2 (fx l i)=some s)(D:b<=s.str)(aS:G.pr (s.str+1) d (i+1)=.out)(x:Tr)(j:Nat):Reach l G d b t i x j:=by
 intro n;refine zalal ?_
 cases n with
 | zero=>rfl
 | succ n=>
  unfold OY;rw[W];simp only;rw[zalah LM,aS];rfl
end
variable (aN:aEx l) (oZ:aEy l)
include aN oZ
def agO {i b:Nat}(E:2<=b)(O:b<=7):(∃ s,SA 2 (fx l i)=some s/\s.str=(b:Int)/\s.kd=opK (MJ l i).tx)↔((MJ l i).kd=5/\WA (amc b) (MJ l i).tx=true):=by
 constructor
 ·rintro⟨s,W,D,N⟩;have d':fx l i≠LH:=by
   intro e;rw[e] at W;have:SA 2 LH=none:=by decide +kernel
   rw[this] at W;cases W
  have cq:(MJ l i).kd=2\/(MJ l i).kd=5:=by
   by_cases h:(MJ l i).kd=2\/(MJ l i).kd=5
   ·exact h
   ·exact absurd (ajS (λe=>h (zalad e)) (λe=>h (zalal e))) d'
  have an:fx l i=(MJ l i).tx:=by unfold fx;rw[zalak (by simpa using cq)]
  rw[an] at W
  rcases cq with h|h
  ·rw[aN i h] at W;cases W
  ·refine⟨h,?_⟩;have:=(akc W).2.2;rw[D] at this;simpa using this
 ·rintro⟨bw,an⟩;have he:fx l i=(MJ l i).tx:=by unfold fx;rw[zalak (by simp[bw])]
  rw[he];exact arH b E O _ (oZ i bw) an
def aaj {G:OQ}{d b:Nat}{ov:Nat->PR Tr}(E:2<=b)(O:b<=7)(ae:∀ i,OO (ov i) (G.pr ((b:Int)+1) d i))(he:∀ i u j,ov i=.ok u j->aj9 l ((b:Int)+1) j) :
  ∀ n t i,aj9 l ((b:Int)+1) i->∀ x j,P6 l ov (amc b) n t i=.ok x j->(∀ eJ:Int,eJ<=(b:Int)->Reach l G d eJ t i x j)/\aj9 l (b:Int) j:=by
 intro n
 induction n with
 | zero=>intro t i _ x j e;cases e
 | succ n aU=>
  intro t i a3 x j e;unfold P6 at e
  split at e
  ·rename_i an
   obtain⟨s,W,qL,qM⟩:=(agO aN oZ E O).2 an;obtain⟨u,az,aW,a4⟩:=Xi e;have n2:=he _ _ _ aW;rw[<-qM] at a4;obtain⟨e8,lW⟩:=aU _ az n2 x j a4;refine⟨λeJ eG=>?_,lW⟩
   rcases ae _ _ _ aW with aS|aS
   ·rw[<-qL] at aS;exact(Reach.step W LM aS).trans (e8 eJ eG)
   ·rw[<-qL] at aS;exact Reach.stuck W LM aS x j
  ·rename_i an
   cases e;refine⟨λeJ _=>Reach.refl _ _,λs W=>?_⟩;have ao:=a3 s W
   by_cases qL:s.str=(b:Int)
   ·exfalso;refine an ((agO aN oZ E O).1 ⟨s,W,qL,?_⟩);have d':fx l i≠LH:=by
     intro e;rw[e] at W;have:SA 2 LH=none:=by decide +kernel
     rw[this] at W;cases W
    have qz:fx l i=(MJ l i).tx:=by
     unfold fx at d' ⊢
     split
     ·rfl
     ·rename_i am;rw[zalah am] at d';exact absurd rfl d'
    obtain⟨bZ,cf,cx⟩:=agN W;have key:∀ s ∈ YU,s.parts=2->s.kd=opK s.tx:=by decide +kernel
    rw[<-qz,cx];exact key s bZ cf
   ·omega
section
variable {F G:OQ} {d:Nat} (W:∀ i,OO (F.sg d i) (G.sg d i)) (ae:∀ (b:Nat) i,3<=b->b<=8->OO (PX l F d (lvls.drop (b - 2)) i) (G.pr (b:Int) d i))
include F G d W ae
def aer :
  ∀ c b,b+c=8->2<=b->∀ i x j,PX l F d (lvls.drop (b - 2)) i=.ok x j ->
   (∀ eJ:Int,eJ<=(b:Int)->∀ n,(∃ m,(G.sg d i).bind (λt az=>OY l G eJ d n t az)=OY l G eJ d m x j)\/(G.sg d i).bind (λt az=>OY l G eJ d n t az)=.out)/\aj9 l (b:Int) j:=by
 intro c
 induction c with
 | zero=>
  intro b D O i x j e;have rT:b=8:=LM;subst rT;have ha:F.sg d i=.ok x j:=e;refine⟨λeJ _ n=>?_,λs h=>?_⟩
  ·rcases W i x j ha with h|h
   ·rw[h];exact zalad ⟨n,rfl⟩
   ·rw[h];exact zalal rfl
  ·have:=(akc h).2.1;omega
 | succ c aU=>
  intro b D O i x j e;have yO:lvls.drop (b - 2)=amc b::lvls.drop (b+1 - 2):=by
   have eG:b=2\/b=3\/b=4\/b=5\/b=6\/b=7:=LM
   rcases eG with rfl|rfl|rfl|rfl|rfl|rfl <;> rfl
  rw[yO] at e;unfold PX at e;obtain⟨t,az,aW,a4⟩:=Xi e;obtain⟨e8,lW⟩:=aU (b+1) LM LM i t az aW;have hcast:(((b+1:Nat)):Int)=(b:Int)+1:=LM;rw[hcast] at e8 lW;obtain⟨bC,dM⟩:=aaj aN oZ (G:=G) (d:=d) O LM (λaX=>by have:=ae (b+1) aX LM LM;rw[hcast] at this;exact this)
   (λaX u a8 bO=>by have:=(aU (b+1) LM LM aX u a8 bO).2;rw[hcast] at this;exact this) _ t az lW x j a4
  refine⟨λeJ eG n=>?_,dM⟩
  rcases e8 eJ LM n with ⟨m,qg⟩|qg
  ·rw[qg];exact bC eJ eG m
  ·exact zalal qg
def arI (b:Int)(O:2<=b)(dp:b<=8)(i:Nat) :
  OO (rpr l F b d i) (UO l G b d i):=by
 intro x j e;obtain⟨b,rfl⟩:=Int.eq_ofNat_of_zero_le (a:=b) LM;have ha:PX l F d (lvls.drop (b - 2)) i=.ok x j:=by
  unfold rpr at e;rw[show ((b:Int) - 2).toNat=b - 2 by omega] at e;exact e
 obtain⟨e8,lW⟩:=aer aN oZ W ae (8 - b) b LM LM i x j ha;unfold UO
 rcases e8 (b:Int) (Int.le_refl _) G.fuel with ⟨m,qg⟩|qg
 ·rw[qg]
  cases m with
  | zero=>exact zalal rfl
  | succ m=>
   unfold OY
   cases du:SA 2 (fx l j) with
   | none=>exact zalad rfl
   | some s=>
    simp only;rw[zalak (lW s du)];exact zalad rfl
 ·exact zalal qg
end
def aoB:∀ m9 k,aiI (TJ l k) (fns l m9):=by
 intro m9
 induction m9 with
 | zero=>intro k;exact⟨λ_ _=>OO.out _,λ_ _=>OO.out _,λ_ _ _ _ _=>OO.out _,λ_ _=>OO.out _⟩
 | succ m9 aU=>
  intro k
  cases k with
  | zero=>exact⟨λ_ _ _ _ h=>(by cases h),λ_ _ _ _ h=>(by cases h),λ_ _ _ _ _ _ _ h=>(by cases h),λ_ _ _ _ h=>(by cases h)⟩
  | succ k=>
   have h:=aU k;refine⟨λd i=>aai h d i,λd i=>aiK h d i,λb d i O dp=>?_,λd i=>aen h d i⟩;refine arI aN oZ (λi=>h.sg d i) (λb i ao dp=>?_) b O dp i;have:=(aU (k+1)).pr (b:Int) d i LM LM;have e:(TJ l (k+1)).pr (b:Int) d i=PX l (TJ l k) d (lvls.drop (b - 2)) i:=by
    show rpr l (TJ l k) (b:Int) d i=_
    unfold rpr;rw[show ((b:Int) - 2).toNat=b - 2 by omega]
   rw[e] at this;exact this
def ac9 (k m9:Nat):OO (PZ l (TJ l k)) (PZ l (fns l m9)):=by
 have h:=aoB aN oZ m9 k;have loop:∀ n eV au i,OO (Oa l (TJ l k) n au i) (Oa l (fns l m9) eV au i):=by
  intro n
  induction n with
  | zero=>intro eV au i x j e;cases e
  | succ n aU=>
   intro eV au i
   cases eV with
   | zero=>exact OO.out _
   | succ eV=>
    unfold Oa
    split
    ·exact OO.refl _
    ·exact OO.bind (QB (h.st _ _)) λt az=>aU eV _ az
 unfold PZ;exact OO.bind (loop _ _ [] 0) λ_ _=>OO.refl _
end
section
variable (aj:List LW) (s:LW) (w wr:LK) (r:TR) (K:Act->LK->Prop) (f:Nat->LY) (v:LY) (j:Nat) (au:List Tk) (W:s.size<=3000) (aC:j<s.size) (ej:au.length<=j) (bm:Om aj w) (he:Pn aj ML s (MH O8 s j) au=r) (hinv:RInv w au v wr) (f8:O8 (s[j].toNat:Int)=true)
include aj s w wr r K f v j au W aC ej bm he hinv f8
def aoR (fc:(((s[j].toNat:Nat):Int)==32)=true) :
  Code.wp prog body6 (Q6 aj s w r K (s.size - j)) (fr s w.heap.size v (LJ (j:Int)) f) wr:=aEl
def aoS (fc:(((s[j].toNat:Nat):Int)==32)=false)(dn:(((s[j].toNat:Nat):Int)==10)=true) :
  Code.wp prog body6 (Q6 aj s w r K (s.size - j)) (fr s w.heap.size v (LJ (j:Int)) f) wr:=aEl
end
section
variable (aj:List LW) (s:LW) (w wr:LK) (r:TR) (K:Act->LK->Prop) (f:Nat->LY) (v:LY) (j:Nat) (au:List Tk) (W:s.size<=3000) (aC:j<s.size) (ej:au.length<=j) (bm:Om aj w) (he:Pn aj ML s (MH O8 s j) au=r) (hinv:RInv w au v wr) (iS:O8 (s[j].toNat:Int)=false) (hlet:Sm (s[j].toNat:Int)=true) (e:Nat) (kY:MH OL s j=e) (dI:j<e) (c8:e<=s.size)
include aj s w wr r K f v j au W aC ej bm he hinv iS hlet e kY dI c8
def aeO (g1:e<s.size)(hw:isIn aj (s.extract j e)=true)(aY:Oe aj ML s j=.tok 2 (s.extract j e) 0 e) :
  Code.wp prog body6 (Q6 aj s w r K (s.size - j)) (fr s w.heap.size v (LJ (j:Int)) f) wr:=by
 have kT:=dI;clear kT;have A{G}(h:G:=by
 have A{G}(h:G:=by
 have A{G}(h:G:=by
 have A{G}(h:G:=by
 go_loop [5] (λv=>∃ q:Nat,j<=q/\q<=e/\v=LJ q/\MH OL s q=e) (λv=>s.size - (intOf v).toNat)
 case atStart=>exact⟨j,Nh,by omega,rfl,hY.out⟩
 case round=>
  obtain⟨q,jf,dP,rfl,cX⟩:=hrel
  by_cases ef:q<s.size
  ·
   cases ab:Sm (s[q].toNat:Int)
   ·
    cases aD:Nl (s[q].toNat:Int)
    ·have A{G}(h:G:=by
     rintro a4 w2 ⟨rfl,rfl⟩;exact aCW):=LG h;exact auh
    ·exact ara
   ·exact arb
  ·exfalso;omega):=LG h;exact alA):=LG h;exact alO):=LG h;exact aCm):=LG h;exact zsf
def aeP (g1:e=s.size)(hw:isIn aj (s.extract j e)=true)(aY:Oe aj ML s j=.tok 2 (s.extract j e) 0 e) :
  Code.wp prog body6 (Q6 aj s w r K (s.size - j)) (fr s w.heap.size v (LJ (j:Int)) f) wr:=by
 have kT:=dI;clear kT;have A{G}(h:G:=by
 have A{G}(h:G:=by
 have A{G}(h:G:=by
 have tF:s.size<=e:=LM;clear g1;have A{G}(h:G:=by
 go_loop [5] (λv=>∃ q:Nat,j<=q/\q<=e/\v=LJ q/\MH OL s q=e) (λv=>s.size - (intOf v).toNat)
 case atStart=>exact⟨j,Nh,by omega,rfl,hY.out⟩
 case round=>
  obtain⟨q,jf,dP,rfl,cX⟩:=hrel
  by_cases ef:q<s.size
  ·exact au3
  ·have d4:e=q:=by have:=RS OL s q LM;omega
   subst d4;clear cX;exact aCW):=LG h;exact alA):=LG h;exact alO):=LG h;exact aCm):=LG h;exact zsf
def aeM (g1:e<s.size)(hw:isIn aj (s.extract j e)=false)(gr:¬ 20<e - j)(aY:Oe aj ML s j=.tok 1 (s.extract j e) 0 e) :
  Code.wp prog body6 (Q6 aj s w r K (s.size - j)) (fr s w.heap.size v (LJ (j:Int)) f) wr:=by
 have kT:=dI;clear kT;have A{G}(h:G:=by
 have A{G}(h:G:=by
 have A{G}(h:G:=by
 have A{G}(h:G:=by
 go_loop [5] (λv=>∃ q:Nat,j<=q/\q<=e/\v=LJ q/\MH OL s q=e) (λv=>s.size - (intOf v).toNat)
 case atStart=>exact⟨j,Nh,by omega,rfl,hY.out⟩
 case round=>
  obtain⟨q,jf,dP,rfl,cX⟩:=hrel
  by_cases ef:q<s.size
  ·
   cases ab:Sm (s[q].toNat:Int)
   ·
    cases aD:Nl (s[q].toNat:Int)
    ·have A{G}(h:G:=by
     rintro a4 w2 ⟨rfl,rfl⟩;exact aCX):=LG h;exact auh
    ·exact ara
   ·exact arb
  ·exfalso;omega):=LG h;exact alA):=LG h;exact alO):=LG h;exact aCn):=LG h;exact zsf
def aeN (g1:e=s.size)(hw:isIn aj (s.extract j e)=false)(gr:¬ 20<e - j)(aY:Oe aj ML s j=.tok 1 (s.extract j e) 0 e) :
  Code.wp prog body6 (Q6 aj s w r K (s.size - j)) (fr s w.heap.size v (LJ (j:Int)) f) wr:=by
 have kT:=dI;clear kT;have A{G}(h:G:=by
 have A{G}(h:G:=by
 have A{G}(h:G:=by
 have tF:s.size<=e:=LM;clear g1;have A{G}(h:G:=by
 go_loop [5] (λv=>∃ q:Nat,j<=q/\q<=e/\v=LJ q/\MH OL s q=e) (λv=>s.size - (intOf v).toNat)
 case atStart=>exact⟨j,Nh,by omega,rfl,hY.out⟩
 case round=>
  obtain⟨q,jf,dP,rfl,cX⟩:=hrel
  by_cases ef:q<s.size
  ·exact au3
  ·have d4:e=q:=by have:=RS OL s q LM;omega
   subst d4;clear cX;exact aCX):=LG h;exact alA):=LG h;exact alO):=LG h;exact aCn):=LG h;exact zsf
def aeK (g1:e<s.size)(hw:isIn aj (s.extract j e)=false)(gr:20<e - j)(aY:Oe aj ML s j=.bad 4 j) :
  Code.wp prog body6 (Q6 aj s w r K (s.size - j)) (fr s w.heap.size v (LJ (j:Int)) f) wr:=by
 have kT:=dI;clear kT;have A{G}(h:G:=by
 have j8:=hide (hinv.lists bm);have A{G}(h:G:=by
 have A{G}(h:G:=by
 have A{G}(h:G:=by
 go_loop [5] (λv=>∃ q:Nat,j<=q/\q<=e/\v=LJ q/\MH OL s q=e) (λv=>s.size - (intOf v).toNat)
 case atStart=>exact⟨j,Nh,by omega,rfl,hY.out⟩
 case round=>
  obtain⟨q,jf,dP,rfl,cX⟩:=hrel
  by_cases ef:q<s.size
  ·
   cases ab:Sm (s[q].toNat:Int)
   ·
    cases aD:Nl (s[q].toNat:Int)
    ·have A{G}(h:G:=by
     rintro a4 w2 ⟨rfl,rfl⟩;exact ayA):=LG h;exact auh
    ·exact ara
   ·exact arb
  ·exfalso;omega):=LG h;exact alA):=LG h;exact alO):=LG h;exact auN):=LG h;exact zsf
def aeL (g1:e=s.size)(hw:isIn aj (s.extract j e)=false)(gr:20<e - j)(aY:Oe aj ML s j=.bad 4 j) :
  Code.wp prog body6 (Q6 aj s w r K (s.size - j)) (fr s w.heap.size v (LJ (j:Int)) f) wr:=by
 have kT:=dI;clear kT;have A{G}(h:G:=by
 have j8:=hide (hinv.lists bm);have A{G}(h:G:=by
 have A{G}(h:G:=by
 have tF:s.size<=e:=LM;clear g1;have A{G}(h:G:=by
 go_loop [5] (λv=>∃ q:Nat,j<=q/\q<=e/\v=LJ q/\MH OL s q=e) (λv=>s.size - (intOf v).toNat)
 case atStart=>exact⟨j,Nh,by omega,rfl,hY.out⟩
 case round=>
  obtain⟨q,jf,dP,rfl,cX⟩:=hrel
  by_cases ef:q<s.size
  ·exact au3
  ·have d4:e=q:=by have:=RS OL s q LM;omega
   subst d4;clear cX;exact ayA):=LG h;exact alA):=LG h;exact alO):=LG h;exact auN):=LG h;exact zsf
end
section
variable (aj:List LW) (s:LW) (w wr:LK) (r:TR) (K:Act->LK->Prop) (f:Nat->LY) (v:LY) (j:Nat) (au:List Tk) (W:s.size<=3000) (aC:j<s.size) (ej:au.length<=j) (bm:Om aj w) (he:Pn aj ML s (MH O8 s j) au=r) (hinv:RInv w au v wr) (iS:O8 (s[j].toNat:Int)=false) (hlet:Sm (s[j].toNat:Int)=false) (hdig:Nl (s[j].toNat:Int)=true) (e:Nat) (kY:MH Nl s j=e) (dI:j<e) (c8:e<=s.size)
include aj s w wr r K f v j au W aC ej bm he hinv iS hlet hdig e kY dI c8
def acs (g1:e<s.size)(eL:10<e - j)(aY:Oe aj ML s j=.bad 3 j) :
  Code.wp prog body6 (Q6 aj s w r K (s.size - j)) (fr s w.heap.size v (LJ (j:Int)) f) wr:=aCF
def acu (g1:e=s.size)(eL:10<e - j)(aY:Oe aj ML s j=.bad 3 j) :
  Code.wp prog body6 (Q6 aj s w r K (s.size - j)) (fr s w.heap.size v (LJ (j:Int)) f) wr:=aCH
def acv (g1:e<s.size)(eL:¬ 10<e - j)(E:1<e - j)(hz:(((s[j].toNat:Nat):Int)==48)=true)(aY:Oe aj ML s j=.bad 3 j) :
  Code.wp prog body6 (Q6 aj s w r K (s.size - j)) (fr s w.heap.size v (LJ (j:Int)) f) wr:=aCF
def acw (g1:e=s.size)(eL:¬ 10<e - j)(E:1<e - j)(hz:(((s[j].toNat:Nat):Int)==48)=true)(aY:Oe aj ML s j=.bad 3 j) :
  Code.wp prog body6 (Q6 aj s w r K (s.size - j)) (fr s w.heap.size v (LJ (j:Int)) f) wr:=aCH
def aeF (g1:e<s.size)(n:Int)(av:TS (s.extract j e).data.toList=n)(eL:¬ 10<e - j)(E:1<e - j)(hz:(((s[j].toNat:Nat):Int)==48)=false)(D:1000000000<n)(aY:Oe aj ML s j=.bad 2 j) :
  Code.wp prog body6 (Q6 aj s w r K (s.size - j)) (fr s w.heap.size v (LJ (j:Int)) f) wr:=by
 refine aiv ?_;have A{G}(h:G:=by
 have A{G}(h:G:=by
 have A{G}(h:G:=by
 go_loop [5] (λv=>∃ q:Nat,j<=q/\q<=e/\v=LJ q/\MH Nl s q=e) (λv=>s.size - (intOf v).toNat)
 case atStart=>exact⟨j,Nh,by omega,rfl,hY.out⟩
 case round=>
  obtain⟨q,jf,dP,rfl,cX⟩:=hrel
  by_cases ef:q<s.size
  ·
   cases aD:Nl (s[q].toNat:Int)
   ·have A{G}(h:G:=by
    rintro a4 w2 ⟨rfl,rfl⟩;exact aDq):=LG h;exact aqQ
   ·exact au0
  ·exfalso;omega):=LG h;exact aaf):=LG h;exact aBf):=LG h;exact zsf
def aeG (g1:e=s.size)(n:Int)(av:TS (s.extract j e).data.toList=n)(eL:¬ 10<e - j)(E:1<e - j)(hz:(((s[j].toNat:Nat):Int)==48)=false)(D:1000000000<n)(aY:Oe aj ML s j=.bad 2 j) :
  Code.wp prog body6 (Q6 aj s w r K (s.size - j)) (fr s w.heap.size v (LJ (j:Int)) f) wr:=by
 refine aiv ?_;have A{G}(h:G:=by
 have A{G}(h:G:=by
 have tF:s.size<=e:=LM;clear g1;have A{G}(h:G:=by
 go_loop [5] (λv=>∃ q:Nat,j<=q/\q<=e/\v=LJ q/\MH Nl s q=e) (λv=>s.size - (intOf v).toNat)
 case atStart=>exact⟨j,Nh,by omega,rfl,hY.out⟩
 case round=>
  obtain⟨q,jf,dP,rfl,cX⟩:=hrel
  by_cases ef:q<s.size
  ·
   cases aD:Nl (s[q].toNat:Int)
   ·have bB:=Qa Nl s q ef aD;exfalso;omega
   ·exact au0
  ·have d4:e=q:=by have:=RS Nl s q LM;omega
   subst d4;clear cX;exact aDq):=LG h;exact aaf):=LG h;exact aBf):=LG h;exact zsf
def acy (g1:e<s.size)(n:Int)(av:TS (s.extract j e).data.toList=n)(eL:¬ 10<e - j)(E:1<e - j)(hz:(((s[j].toNat:Nat):Int)==48)=false)(D:¬ 1000000000<n)(aY:Oe aj ML s j=.tok 3 ⟨#[]⟩ n e) :
  Code.wp prog body6 (Q6 aj s w r K (s.size - j)) (fr s w.heap.size v (LJ (j:Int)) f) wr:=by
 refine aiv ?_;have A{G}(h:G:=by
 have A{G}(h:G:=by
 have A{G}(h:G:=by
 go_loop [5] (λv=>∃ q:Nat,j<=q/\q<=e/\v=LJ q/\MH Nl s q=e) (λv=>s.size - (intOf v).toNat)
 case atStart=>exact⟨j,Nh,by omega,rfl,hY.out⟩
 case round=>
  obtain⟨q,jf,dP,rfl,cX⟩:=hrel
  by_cases ef:q<s.size
  ·
   cases aD:Nl (s[q].toNat:Int)
   ·have A{G}(h:G:=by
    have A{G}(h:G:=by
    have A{G}(h:G:=by
    clear hds bK
    go_wp2_with (at_builtin;refine zalcr _ rfl _ _ 161 rfl (w.heap.size+1) 167 a6 TB 4 40 zalem ak bL bM bP rfl MK _ _ _ rfl (l6.out.own.alloc _) (LD aq.heap.size 0) 1 1 [LJ 3,U7,LJ n,LJ (j:Int)] rfl rfl ?c1 ?c2 ?c3 ?c4 ?c5 ?_)
    case c1=>
     exact aDc
    case c2=>
     exact alV
    case c3=>unfold maxLen;omega
    case c4=>omega
    case c5=>have:=l6.out.size;simp;omega
    intro b0 bn hown' hgrow _;have j7:=hide (l6.out.app (t:=Tk.mk 3 ⟨#[]⟩ n j) _ hown' hgrow);exact aDA):=LG h;exact aqL):=LG h;exact aBY):=LG h;exact aqQ
   ·exact au0
  ·exfalso;omega):=LG h;exact aaf):=LG h;exact aui):=LG h;exact zsf
def acz (g1:e=s.size)(n:Int)(av:TS (s.extract j e).data.toList=n)(eL:¬ 10<e - j)(E:1<e - j)(hz:(((s[j].toNat:Nat):Int)==48)=false)(D:¬ 1000000000<n)(aY:Oe aj ML s j=.tok 3 ⟨#[]⟩ n e) :
  Code.wp prog body6 (Q6 aj s w r K (s.size - j)) (fr s w.heap.size v (LJ (j:Int)) f) wr:=aDG
def aeH (g1:e<s.size)(n:Int)(av:TS (s.extract j e).data.toList=n)(E:¬ 1<e - j)(D:¬ 1000000000<n)(aY:Oe aj ML s j=.tok 3 ⟨#[]⟩ n e) :
  Code.wp prog body6 (Q6 aj s w r K (s.size - j)) (fr s w.heap.size v (LJ (j:Int)) f) wr:=by
 refine aiv ?_;have A{G}(h:G:=by
 have A{G}(h:G:=by
 have A{G}(h:G:=by
 go_loop [5] (λv=>∃ q:Nat,j<=q/\q<=e/\v=LJ q/\MH Nl s q=e) (λv=>s.size - (intOf v).toNat)
 case atStart=>exact⟨j,Nh,by omega,rfl,hY.out⟩
 case round=>
  obtain⟨q,jf,dP,rfl,cX⟩:=hrel
  by_cases ef:q<s.size
  ·
   cases aD:Nl (s[q].toNat:Int)
   ·have A{G}(h:G:=by
    have A{G}(h:G:=by
    have A{G}(h:G:=by
    clear rV hds bK
    go_wp2_with (at_builtin;refine zalcr _ rfl _ _ 161 rfl (w.heap.size+1) 167 a6 TB 4 40 zalem ak bL bM bP rfl MK _ _ _ rfl (l6.out.own.alloc _) (LD aq.heap.size 0) 1 1 [LJ 3,U7,LJ n,LJ (j:Int)] rfl rfl ?c1 ?c2 ?c3 ?c4 ?c5 ?_)
    case c1=>
     exact aDc
    case c2=>
     exact alV
    case c3=>unfold maxLen;omega
    case c4=>omega
    case c5=>have:=l6.out.size;simp;omega
    intro b0 bn hown' hgrow _;have j7:=hide (l6.out.app (t:=Tk.mk 3 ⟨#[]⟩ n j) _ hown' hgrow);clear hown' hgrow;exact aDA):=LG h;exact aqL):=LG h;exact aBY):=LG h;exact aqQ
   ·exact au0
  ·exfalso;omega):=LG h;exact aaf):=LG h;exact aui):=LG h;exact zsf
def aeI (g1:e=s.size)(n:Int)(av:TS (s.extract j e).data.toList=n)(E:¬ 1<e - j)(D:¬ 1000000000<n)(aY:Oe aj ML s j=.tok 3 ⟨#[]⟩ n e) :
  Code.wp prog body6 (Q6 aj s w r K (s.size - j)) (fr s w.heap.size v (LJ (j:Int)) f) wr:=aDG
end
def X0 (w:LK)(a c d:Int)(x:LW)(j:Nat)(u:LY)(h:([LJ a,LQ x,LJ c,LJ d]:List LY)[j]? = some u) :
  (w.alloc (.cells #[LJ a,LQ x,LJ c,LJ d] 167)).cell? (Addr.add (LD w.heap.size 0) j)=some u:=by
 match j,h with
 | 0,h=>simp at h;subst h;simp[Addr.add]
 | 1,h=>simp at h;subst h;simp[Addr.add]
 | 2,h=>simp at h;subst h;simp[Addr.add]
 | 3,h=>simp at h;subst h;simp[Addr.add]
def aa0 (a c d:Int)(x:LW)(u:LY)(h:u ∈ ([LJ a,LQ x,LJ c,LJ d]:List LY)):u.oneCell'=true:=by
 simp only[zalas,zalcw,zalfb] at h
 rcases h with rfl|rfl|rfl|rfl <;> rfl
def ext_list (s:LW)(a b:Nat):(s.extract a b).data.toList=(s.data.toList.drop a).take (b - a):=Lib.extract_data s a b
def aCU (s:LW)(q:Nat)(said:List UInt8)(h:q<s.size):ofBytes said++s.extract q (q+1)=ofBytes (said++[s[q]]):=by
 apply zalgl;have E:(ofBytes said++s.extract q (q+1)).data.toList=said++(s.extract q (q+1)).data.toList:=by simp[ofBytes]
 rw[E,ext_list];have O:q<s.data.toList.length:=by simpa using h
 rw[zalbs O,show q+1 - q=1 from by omega];rfl
def aGD (said:List UInt8):ofBytes said ++ ⟨#[10]⟩=ofBytes (said++[10]):=by
 apply zalgl;simp[ofBytes]
def aa3 (said:List UInt8):(ofBytes said).size=said.length:=by simp[ofBytes,ByteArray.size]
section
variable (aj:List LW) (s:LW) (w wr:LK) (r:TR) (K:Act->LK->Prop) (f:Nat->LY) (v:LY) (j:Nat) (au:List Tk) (W:s.size<=3000) (aC:j<s.size) (ej:au.length<=j) (bm:Om aj w) (he:Pn aj ML s (MH O8 s j) au=r) (hinv:RInv w au v wr) (iS:O8 (s[j].toNat:Int)=false) (hlet:Sm (s[j].toNat:Int)=false) (hdig:Nl (s[j].toNat:Int)=false) (pe:(((s[j].toNat:Nat):Int)==39)=true)
include aj s w wr r K f v j au W aC ej bm he hinv iS hlet hdig pe
def arV (l:List UInt8)(e:Nat)(a7:Ti s (j+1) []=.ok l e)(c8:e<=s.size)(yE:j<e)(ab:l.length<=500)(aY:Oe aj ML s j=.tok 4 (ofBytes l) 0 e) :
  Code.wp prog body6 (Q6 aj s w r K (s.size - j)) (fr s w.heap.size v (LJ (j:Int)) f) wr:=by
 have A{G}(h:G:=by
 clear he hinv iS cF;have dm:=hide ((UY aj ML s j au (4) (0) (ofBytes l) e aC aY LM).symm.trans cG.out);have bo:=hide a7;have nz:=hide hlet;have oH:=hide hdig;clear hlet hdig aY a7;have A{G}(h:G:=by
 go_loop [5,12] (λi v=>∃ (q:Nat) (said:List UInt8),j+1<=q/\q<=s.size/\said.length<=q/\i=LJ q/\v=LQ (ofBytes said)/\Ti s q said=.ok l e) (λi _=>s.size - (intOf i).toNat)
 case atStart=>exact⟨j+1,[],Nh,by omega,by simp,by go_num,rfl,bo.out⟩
 case round=>
  obtain⟨q,said,jf,dP,CO,rfl,rfl,cX⟩:=hrel
  by_cases ef:q<s.size
  ·have A{G}(h:G:=by
   by_cases c1:s[q]=39
   ·have A{G}(h:G:=by
    have cv:=(SR.ok.inj cX).1;have bE:=(SR.ok.inj cX).2;subst cv;subst bE;clear cX;have m7:=aa3 said;have CK:(ofBytes said).size<=500:=LM;clear m7 bT a' cV c1 dL
    go_wp2_with (at_builtin;refine zalcr _ rfl _ _ 161 rfl (w.heap.size+1) 167 a6 TB 4 40 zalem ak bL bM bP rfl MK _ _ _ rfl (eE.out.own.alloc _) (LD w1.heap.size 0) 1 1 [LJ 4,LQ (ofBytes said),LJ 0,LJ (j:Int)] rfl rfl (X0 _ _ _ _ _) (aa0 _ _ _ _) (by unfold maxLen;omega) LM (by have:=eE.out.size;simp;omega) ?_;intro b0 bn hown' hgrow _;have j7:=hide (eE.out.app (t:=Tk.mk 4 (ofBytes said) 0 j) _ hown' hgrow);clear hown' hgrow)
    exact⟨aaX (q+1) (au++[Tk.mk 4 (ofBytes said) 0 j]) b0 c8 OM dm.out j7.out Nw,by simp[mu6,intOf];omega⟩):=LG h;exact auo
   ·exact aDF):=LG h;exact aut
  ·have d4:s.size=q:=LM;subst d4;rw[Xk s s.size said ef] at cX;cases cX):=LG h;exact aaf):=LG h;exact zsf
def ams (l:List UInt8)(e:Nat)(a7:Ti s (j+1) []=.ok l e)(ab:500<l.length)(aY:Oe aj ML s j=.bad 4 j) :
  Code.wp prog body6 (Q6 aj s w r K (s.size - j)) (fr s w.heap.size v (LJ (j:Int)) f) wr:=by
 have A{G}(h:G:=by
 have A{G}(h:G:=by
 have bo:=hide a7;have nz:=hide hlet;have oH:=hide hdig;clear hlet hdig aY a7;have A{G}(h:G:=by
 go_loop [5,12] (λi v=>∃ (q:Nat) (said:List UInt8),j+1<=q/\q<=s.size/\said.length<=q/\i=LJ q/\v=LQ (ofBytes said)/\Ti s q said=.ok l e) (λi _=>s.size - (intOf i).toNat)
 case atStart=>exact⟨j+1,[],Nh,by omega,by simp,by go_num,rfl,bo.out⟩
 case round=>
  obtain⟨q,said,jf,dP,CO,rfl,rfl,cX⟩:=hrel
  by_cases ef:q<s.size
  ·have A{G}(h:G:=by
   by_cases c1:s[q]=39
   ·have A{G}(h:G:=by
    have cv:=(SR.ok.inj cX).1;have bE:=(SR.ok.inj cX).2;subst cv;subst bE;clear cX;have m7:=aa3 said;have CK:500<(ofBytes said).size:=LM;clear m7 bT a' cV c1 dL;go_wp2_with fail;exact zalcs (v:=.tuple #[QJ,.agg #[LJ 4,LJ (j:Int)]]) (by simp[results,zalgf,go_sem,kw,kx]) rfl ⟨rfl,eE.out.out _ _⟩):=LG h;exact auo
   ·exact aDF):=LG h;exact aut
  ·have d4:s.size=q:=LM;subst d4;rw[Xk s s.size said ef] at cX;cases cX):=LG h;exact aaf):=LG h;exact auN):=LG h;exact zsf
def aoQ (p:Nat)(a7:Ti s (j+1) []=.bad p)(aY:Oe aj ML s j=.bad 3 p) :
  Code.wp prog body6 (Q6 aj s w r K (s.size - j)) (fr s w.heap.size v (LJ (j:Int)) f) wr:=by
 have A{G}(h:G:=by
 clear he hinv iS cF;have ac:r=.bad 3 p:=by rw[<-cG.out,Tc aj ML s j au 3 p aC aY]
 subst ac;have bo:=hide a7;have nz:=hide hlet;have oH:=hide hdig;clear hlet hdig aY a7;have A{G}(h:G:=by
 go_loop [5,12] (λi v=>∃ (q:Nat) (said:List UInt8),j+1<=q/\q<=s.size/\said.length<=q/\i=LJ q/\v=LQ (ofBytes said)/\Ti s q said=.bad p) (λi _=>s.size - (intOf i).toNat)
 case atStart=>exact⟨j+1,[],Nh,by omega,by simp,by go_num,rfl,bo.out⟩
 case round=>
  obtain⟨q,said,jf,dP,CO,rfl,rfl,cX⟩:=hrel
  by_cases ef:q<s.size
  ·have A{G}(h:G:=by
   by_cases c1:s[q]=39
   ·have A{G}(h:G:=by
    cases cX):=LG h;exact auo
   ·have ky:(((s[q].toNat:Nat):Int)==39)=false:=by rw[show (39:Int)=(((39:UInt8).toNat:Nat):Int) from rfl,bT];simp[c1]
    by_cases c2:s[q]=10
    ·have gl:(((s[q].toNat:Nat):Int)==10)=true:=by rw[c2];rfl
     rw[aat s q said ef (by rw[dL];exact c2)] at cX
     have qI:=SR.bad.inj cX;subst qI;clear cX;clear bT a' cV c1 c2 dL;go_wp2_with fail;exact zalcs (v:=.tuple #[QJ,.agg #[LJ 3,LJ (q:Int)]]) (by simp[results,zalgf,go_sem,kw,kx]) rfl ⟨rfl,eE.out.out _ _⟩
    ·have gl:(((s[q].toNat:Nat):Int)==10)=false:=by rw[show (10:Int)=(((10:UInt8).toNat:Nat):Int) from rfl,a'];simp[c2]
     by_cases c3:s[q]=92
     ·have lX:(((s[q].toNat:Nat):Int) != 92)=false:=by rw[c3];rfl
      by_cases qJ:q+1<s.size
      ·have A{G}(h:G:=by
       by_cases a9:s[q+1]=110
       ·exact aC0
       ·have u1:(((s[q+1].toNat:Nat):Int)==110)=false:=by rw[show (110:Int)=(((110:UInt8).toNat:Nat):Int) from rfl,d1];simp[a9]
        by_cases bD:s[q+1]=39
        ·have A{G}(h:G:=by
         have A{G}(h:G:=by
         clear cX m7 bT a' cV c1 c2 c3 dL mY d1 d2 fy a9 bD;exact au9):=LG h;exact alM):=LG h;exact aB6
        ·have u2:(((s[q+1].toNat:Nat):Int)==39)=false:=by rw[show (39:Int)=(((39:UInt8).toNat:Nat):Int) from rfl,d2];simp[bD]
         by_cases b8:s[q+1]=92
         ·have A{G}(h:G:=by
          have A{G}(h:G:=by
          clear cX m7 bT a' cV c1 c2 c3 dL mY d1 d2 fy a9 bD b8;exact au9):=LG h;exact alM):=LG h;exact aB5
         ·have A{G}(h:G:=by
          have qI:=SR.bad.inj cX;subst qI;clear cX;clear eA bT a' cV c1 c2 c3 dL mY d1 d2 fy a9 bD b8;exact ayQ):=LG h;exact aA2):=LG h;exact aBu
      ·have A{G}(h:G:=by
       have qI:=SR.bad.inj cX;subst qI;clear cX;clear bT a' cV c1 c2 c3 dL;exact ayQ):=LG h;exact aCp
     ·exact aCT):=LG h;exact aut
  ·have d4:s.size=q:=LM;subst d4;rw[Xk s s.size said ef] at cX;have qI:=SR.bad.inj cX;subst qI;clear cX;go_wp2_with fail;exact zalcs (v:=.tuple #[QJ,.agg #[LJ 3,LJ (s.size:Int)]]) (by simp[results,zalgf,go_sem,kw,kx]) rfl ⟨rfl,eE.out.out _ _⟩):=LG h;exact aaf):=LG h;exact zsf
end
def aoT (s:LW)(E:1<=s.size):s.toList.isEmpty=false:=ayN
def afZ (w:LK)(k:Nat)(N:k<19):(w.alloc (.cells #[LQ ⟨#[61,61,61]⟩,LQ ⟨#[38,38]⟩,LQ ⟨#[124,124]⟩,LQ ⟨#[40]⟩,LQ ⟨#[41]⟩,LQ ⟨#[123]⟩,LQ ⟨#[125]⟩,LQ ⟨#[91]⟩,LQ ⟨#[93]⟩,LQ ⟨#[59]⟩,LQ ⟨#[58]⟩,LQ ⟨#[44]⟩,LQ ⟨#[46]⟩,LQ ⟨#[61]⟩,LQ ⟨#[43]⟩,LQ ⟨#[45]⟩,LQ ⟨#[42]⟩,LQ ⟨#[60]⟩,LQ ⟨#[33]⟩] 9)).cell? (LD w.heap.size k)=some (LQ (ML.getD k ByteArray.empty)):=by
 have E:(w.alloc (.cells #[LQ ⟨#[61,61,61]⟩,LQ ⟨#[38,38]⟩,LQ ⟨#[124,124]⟩,LQ ⟨#[40]⟩,LQ ⟨#[41]⟩,LQ ⟨#[123]⟩,LQ ⟨#[125]⟩,LQ ⟨#[91]⟩,LQ ⟨#[93]⟩,LQ ⟨#[59]⟩,LQ ⟨#[58]⟩,LQ ⟨#[44]⟩,LQ ⟨#[46]⟩,LQ ⟨#[61]⟩,LQ ⟨#[43]⟩,LQ ⟨#[45]⟩,LQ ⟨#[42]⟩,LQ ⟨#[60]⟩,LQ ⟨#[33]⟩] 9)).heap[w.heap.size]? = some (.cells #[LQ ⟨#[61,61,61]⟩,LQ ⟨#[38,38]⟩,LQ ⟨#[124,124]⟩,LQ ⟨#[40]⟩,LQ ⟨#[41]⟩,LQ ⟨#[123]⟩,LQ ⟨#[125]⟩,LQ ⟨#[91]⟩,LQ ⟨#[93]⟩,LQ ⟨#[59]⟩,LQ ⟨#[58]⟩,LQ ⟨#[44]⟩,LQ ⟨#[46]⟩,LQ ⟨#[61]⟩,LQ ⟨#[43]⟩,LQ ⟨#[45]⟩,LQ ⟨#[42]⟩,LQ ⟨#[60]⟩,LQ ⟨#[33]⟩] 9):=zalgm w _
 simp only[World.cell?,E];have O:∀ k:Fin 19,(#[LQ ⟨#[61,61,61]⟩,LQ ⟨#[38,38]⟩,LQ ⟨#[124,124]⟩,LQ ⟨#[40]⟩,LQ ⟨#[41]⟩,LQ ⟨#[123]⟩,LQ ⟨#[125]⟩,LQ ⟨#[91]⟩,LQ ⟨#[93]⟩,LQ ⟨#[59]⟩,LQ ⟨#[58]⟩,LQ ⟨#[44]⟩,LQ ⟨#[46]⟩,LQ ⟨#[61]⟩,LQ ⟨#[43]⟩,LQ ⟨#[45]⟩,LQ ⟨#[42]⟩,LQ ⟨#[60]⟩,LQ ⟨#[33]⟩]:Array LY)[k.val]? = some (LQ (ML.getD k.val ByteArray.empty)):=by
  intro k
  match k with
  | ⟨0,_⟩=>rfl
  | ⟨1,_⟩=>rfl
  | ⟨2,_⟩=>rfl
  | ⟨3,_⟩=>rfl
  | ⟨4,_⟩=>rfl
  | ⟨5,_⟩=>rfl
  | ⟨6,_⟩=>rfl
  | ⟨7,_⟩=>rfl
  | ⟨8,_⟩=>rfl
  | ⟨9,_⟩=>rfl
  | ⟨10,_⟩=>rfl
  | ⟨11,_⟩=>rfl
  | ⟨12,_⟩=>rfl
  | ⟨13,_⟩=>rfl
  | ⟨14,_⟩=>rfl
  | ⟨15,_⟩=>rfl
  | ⟨16,_⟩=>rfl
  | ⟨17,_⟩=>rfl
  | ⟨18,_⟩=>rfl
  | ⟨n+19,h⟩=>exact absurd h LM
 exact O ⟨k,N⟩
def abt:∀ i,i<19->(ML.getD i ByteArray.empty).size<=3:=by decide +kernel
section
variable (aj:List LW) (s:LW) (w wr:LK) (r:TR) (K:Act->LK->Prop) (f:Nat->LY) (v:LY) (j:Nat) (au:List Tk) (W:s.size<=3000) (aC:j<s.size) (ej:au.length<=j) (bm:Om aj w) (he:Pn aj ML s (MH O8 s j) au=r) (hinv:RInv w au v wr) (iS:O8 (s[j].toNat:Int)=false) (hlet:Sm (s[j].toNat:Int)=false) (hdig:Nl (s[j].toNat:Int)=false) (pe:(((s[j].toNat:Nat):Int)==39)=false)
include aj s w wr r K f v j au W aC ej bm he hinv iS hlet hdig pe
def amu (eA:∀ k,k<19->Xj (s.extract j s.size) (ML.getD k ByteArray.empty)=false)(aY:Oe aj ML s j=.bad 3 j) :
  Code.wp prog body6 (Q6 aj s w r K (s.size - j)) (fr s w.heap.size v (LJ (j:Int)) f) wr:=by
 have A{G}(h:G:=by
 have A{G}(h:G:=by
 have jx:=hide eA;have nz:=hide hlet;have oH:=hide hdig;clear hlet hdig aY eA;have A{G}(h:G:=by
 have A{G}(h:G:=by
 go_loop [13,15,207] (λa _ b=>∃ q:Nat,q<=19/\b=LJ q/\a=U7) (λ_ _ b=>19 - (intOf b).toNat)
 case atStart=>exact⟨0,zalae _,rfl,rfl⟩
 case round=>
  obtain⟨q,ac,rfl,rfl⟩:=hrel
  by_cases r7:q<19
  ·have dU:=Lu oF q r7;have o6:=abt q r7;have pc:=Lu jx q r7;obtain⟨g,hg⟩:∃ g,g=ML.getD q ByteArray.empty:=⟨_,rfl⟩;rw[<-hg] at dU o6 pc;have sM:=hide pc;clear pc hg;have A{G}(h:G:=by
   rw[sM.out];rintro ew bh ⟨rfl,rfl⟩;go_wp2_with fail
   go_round
   case rel=>exact⟨q+1,by omega,by go_num,rfl⟩
   case measure=>simp[intOf];omega):=LG h;exact an5
  ·go_wp2_with fail;exact zalcs (v:=.tuple #[QJ,.agg #[LJ 3,LJ (j:Int)]]) (by simp[results,zalgf,go_sem,kw,kx]) rfl ⟨rfl,lj.out.out _ _⟩):=LG h;exact az4):=LG h;exact aaf):=LG h;exact auO):=LG h;exact zsf
def amv (m:Nat)(aA:m<19)(g:LW)(vN:ML.getD m ByteArray.empty=g)(gd:1<=g.size)(dc:g.size<=3)(eA:∀ k,k<m->Xj (s.extract j s.size) (ML.getD k ByteArray.empty)=false)(hyes:Xj (s.extract j s.size) g=true)(e:Nat)(GX:j+g.size=e)(c8:e<=s.size)(aY:Oe aj ML s j=.tok 5 g 0 e) :
  Code.wp prog body6 (Q6 aj s w r K (s.size - j)) (fr s w.heap.size v (LJ (j:Int)) f) wr:=by
 have A{G}(h:G:=by
 clear he hinv iS cF;have dm:=hide ((UY aj ML s j au (5) (0) (g) e aC aY LM).symm.trans cG.out);have Fw:=hide hyes;have wT:=hide vN;have hemp:=aoT g gd;clear hyes vN;have jx:=hide eA;have nz:=hide hlet;have oH:=hide hdig;clear hlet hdig aY eA;have A{G}(h:G:=by
 have A{G}(h:G:=by
 go_loop [13,15,207] (λa _ b=>∃ q:Nat,q<=19/\b=LJ q/\((q<=m/\a=U7)\/(m<q/\a=LQ g))) (λ_ _ b=>19 - (intOf b).toNat)
 case atStart=>exact⟨0,zalae _,rfl,zalad ⟨zalae _,rfl⟩⟩
 case round=>
  obtain⟨q,ac,rfl,hrest⟩:=hrel
  by_cases r7:q<19
  ·have dU:=Lu oF q r7;have o6:=abt q r7
   rcases hrest with ⟨yZ,rfl⟩|⟨yZ,rfl⟩
   ·by_cases d4:q=m
    ·subst d4;rw[wT.out] at dU o6;have sM:=hide Fw.out;have A{G}(h:G:=by
     rw[sM.out];rintro ew bh ⟨rfl,rfl⟩;exact ay1):=LG h;exact an5
    ·have pc:=Lu jx q LM;obtain⟨dJ,hg⟩:∃ dJ,dJ=ML.getD q ByteArray.empty:=⟨_,rfl⟩;rw[<-hg] at dU o6 pc;have sM:=hide pc;clear pc hg;have A{G}(h:G:=by
     rw[sM.out];rintro ew bh ⟨rfl,rfl⟩;go_wp2_with fail
     go_round
     case rel=>exact⟨q+1,by omega,by go_num,zalad ⟨by omega,rfl⟩⟩
     case measure=>simp[intOf];omega):=LG h;exact an5
   ·obtain⟨dJ,hg⟩:∃ dJ,dJ=ML.getD q ByteArray.empty:=⟨_,rfl⟩;rw[<-hg] at dU o6;clear hg;exact ay1
  ·rcases hrest with ⟨yZ,rfl⟩|⟨yZ,rfl⟩
   ·exfalso;omega
   ·go_wp2_with (at_builtin;refine zalcr _ rfl _ _ 161 rfl (w.heap.size+1) 167 a6 TB 4 40 zalem ak bL bM bP rfl MK _ _ _ rfl (lj.out.own.alloc _) (LD dB.heap.size 0) 1 1 [LJ 5,LQ g,LJ 0,LJ (j:Int)] rfl rfl (X0 _ _ _ _ _) (aa0 _ _ _ _) (by unfold maxLen;omega) LM (by have:=lj.out.size;simp;omega) ?_;intro b0 bn hown' hgrow _;have j7:=hide (lj.out.app (t:=Tk.mk 5 g 0 j) _ hown' hgrow);clear hown' hgrow)
    exact⟨aaX (j+g.size) (au++[Tk.mk 5 g 0 j]) b0 LM OM (by have h:=Lu dm;rw[<-GX] at h;exact h) j7.out Nw,by simp[mu6,intOf];omega⟩):=LG h;exact az4):=LG h;exact aaf):=LG h;exact zsf
end
section
open Go.RowKit Go.Extern.Stop Go.Stop Go.Extern
def R9.akJ (t:Addr)(w:LK):(ReflectliteValue.unpack (.iface 84 (.pointer (some t)))).run prog w
  = .ok (.agg #[Mc 13 84,Mc w.heap.size 0,.int .u64 150]) (w.alloc (.cells #[.pointer (some t)] 84)):=by kernel_rfl
def R9.akI (n:Int)(w:LK):(ReflectliteValue.unpack (.iface 31 (LJ n))).run prog w
  = .ok (.agg #[Mc 13 31,Mc w.heap.size 0,.int .u64 130]) (w.alloc (.cells #[LJ n] 31)):=by kernel_rfl
def R9.asT (a : Addr) (w : LK) : (ReflectliteValue.methodAny (ReflectliteValue.valueError "reflectlite.Value.Type" 0) (λt _ _ _ => ReflectliteType.toType t) #[.agg #[Mc 13 84, .pointer (some a), .int .u64 150]]).run prog w
  = .ok (.iface 208 (.agg #[Mc 13 84])) w:=by kernel_rfl
def R9.asU (w:LK):((ReflectliteType.abiMethod λt=>(λa:Nat=>Value.int IntKind.u8 (a:Int)) <$> Rtype.kind t) #[Mc 13 84]).run prog w=.ok (.int .u8 22) w:=by kernel_rfl
def R9.asV (w:LK):((ReflectliteType.abiMethod λt=>(λa:Nat=>Value.int IntKind.u8 (a:Int)) <$> Rtype.kind t) #[Mc 13 31]).run prog w=.ok (.int .u8 2) w:=by kernel_rfl
def at_one (v:LY)(f:LY->Sem LY)(g:Array LY->Sem LY):@ReflectliteValue.method.match_2 (λ_=>Sem LY) #[v] f g=f v:=rfl
def asX (v x:LY)(f:LY->LY->Sem LY)(g:Array LY->Sem LY):@ReflectliteValue.set.match_3 (λ_=>Sem LY) #[v,x] f g=f v x:=rfl
def R9.ajt (a:Addr)(w:LK):(ReflectliteValue.parts (.agg #[Mc 13 84,.pointer (some a),.int .u64 150])).run prog w=.ok (some (84,a,150)) w:=by kernel_rfl
def R9.apK (a p:Addr)(L:LK)(aa:L.cell? a=some (.pointer (some p))) :
  (ReflectliteValue.method (ReflectliteValue.valueError "reflectlite.Value.IsNil" 0) ReflectliteValue.isNil #[.agg #[Mc 13 84, .pointer (some a), .int .u64 150]]).run prog L = .ok (L9 false) L := by
 delta ReflectliteValue.method
 rw[at_one];simp only[zalbu,R9.ajt,Result.andThen];simp[ReflectliteValue.isNil,loadVar,isAgg,underlying,underlying84,aa,Result.andThen]
def R9.asW (w:LK):(ReflectliteType.method ReflectliteType.elem #[.agg #[Mc 13 84]]).run prog w=.ok (.iface 208 (.agg #[Mc 13 31])) w:=by kernel_rfl
def R9.adA (w : LK) : (ReflectliteType.relation "Implements" ReflectliteType.implements_ #[.agg #[Mc 13 31], .iface 208 (.agg #[Mc 13 28])]).run prog w = .ok (L9 true) w := by kernel_rfl
def R9.anb (v:LY)(w:LK):(ReflectliteType.typeOf #[.iface 31 v]).run prog w=.ok (.iface 208 (.agg #[Mc 13 31])) w:=by kernel_rfl
def R9.adz (w : LK) : (ReflectliteType.relation "AssignableTo" ReflectliteType.assignableTo #[.agg #[Mc 13 31], .iface 208 (.agg #[Mc 13 31])]).run prog w = .ok (L9 true) w := by kernel_rfl
def R9.anc (w:LK):(Rtype.elem? 84).run prog w=.ok (some 31) w:=by kernel_rfl
def R9.aFp (p:Addr)(w:LK):(ReflectliteValue.mk 31 p ReflectliteValue.flagAddr).run prog w=.ok (.agg #[Mc 13 31,.pointer (some p),.int .u64 386]) w:=by kernel_rfl
def R9.apI (a p:Addr)(L:LK)(aa:L.cell? a=some (.pointer (some p))) :
  (ReflectliteValue.method (ReflectliteValue.valueError "reflectlite.Value.Elem" 0) ReflectliteValue.elem #[.agg #[Mc 13 84, .pointer (some a), .int .u64 150]]).run prog L
   = .ok (.agg #[Mc 13 31,.pointer (some p),.int .u64 386]) L:=by
 delta ReflectliteValue.method
 rw[at_one];simp only[zalbu,R9.ajt,Result.andThen];simp[ReflectliteValue.elem,loadVar,isAgg,underlying,underlying84,aa,Result.andThen,R9.anc,R9.aFp]
def R9.ane (a:Addr)(w:LK):(ReflectliteValue.parts (.agg #[Mc 13 31,.pointer (some a),.int .u64 386])).run prog w=.ok (some (31,a,386)) w:=by kernel_rfl
def R9.apL (a:Addr)(w:LK):(ReflectliteValue.parts (.agg #[Mc 13 31,.pointer (some a),.int .u64 130])).run prog w=.ok (some (31,a,130)) w:=by kernel_rfl
def R9.anf (w:LK):(Rtype.directlyAssignable 31 31).run prog w=.ok true w:=by kernel_rfl
def R9.awO (pA b:Addr)(n:Int)(old:LY)(L:LK)(D:L.cell? b=some (LJ n))(aH:L.cell? pA=some old)(an:L.frozen? pA=false) :
  (ReflectliteValue.set #[.agg #[Mc 13 31,.pointer (some pA),.int .u64 386],.agg #[Mc 13 31,.pointer (some b),.int .u64 130]]).run prog L
   = .ok (.tuple #[]) (L.setCell pA (LJ n)):=by
 delta ReflectliteValue.set
 rw[asX];simp only[zalbu,R9.ane,R9.apL,Result.andThen];simp[ReflectliteValue.flagAddr,loadVar,isAgg,underlying,underlying31,D,Result.andThen,R9.anf,storeVar,Value.cells,storeCells,Addr.add];rw[run_store prog L pA _ _ (by rfl)];simp[aH,an]
section
variable (h:LY) (w:LK)
include h w
def R9.awP : (Go.method 436 208 (.agg #[h]) "Kind").run prog w = .ok (330, h) w := by kernel_rfl
def R9.awQ : (Go.method 436 208 (.agg #[h]) "Elem").run prog w = .ok (343, .agg #[h]) w := by kernel_rfl
def R9.awR : (Go.method 436 208 (.agg #[h]) "Implements").run prog w = .ok (344, .agg #[h]) w := by kernel_rfl
def R9.apH : (Go.method 436 208 (.agg #[h]) "AssignableTo").run prog w = .ok (341, .agg #[h]) w := by kernel_rfl
end
end
section
open Go.RowKit Go.Extern.Stop Go.Stop Go.Extern
def asQ {w:LK}{cE:Nat}{n:Int}{v0:LY}(gj iA:Obj)(ce:w.cell? (LD cE 0)=some v0)(o0:cE<w.heap.size) :
  (((w.setCell (LD cE 0) (LJ n)).alloc gj).alloc iA).cell? (LD cE 0)=some (LJ n)/\Below cE w (((w.setCell (LD cE 0) (LJ n)).alloc gj).alloc iA):=by
 have jA:Below cE w (w.setCell (LD cE 0) (LJ n)):=O4.setCell (p:=(LD cE 0)) Nh _;have b5:=jA.size;have aJ:(w.setCell (LD cE 0) (LJ n)).cell? (LD cE 0)=some (LJ n):=World.cell?_setCell_same _ _ _ ce;have E:((w.setCell (LD cE 0) (LJ n)).alloc gj).cell? (LD cE 0)=some (LJ n):=by rw[zalbi _ _ _ LM];exact aJ
 have bM:((w.setCell (LD cE 0) (LJ n)).alloc gj).heap.size=(w.setCell (LD cE 0) (LJ n)).heap.size+1:=zalhk _ _;refine⟨by rw[zalbi _ _ _ LM];exact E,(jA.alloc LM _).alloc LM _⟩
def as_hit (n:Int)(cE a:Nat)(w:LK)(ce:w.cell? (LD cE 0)=some (LJ 0))(ai:w.frozen? (LD cE 0)=false)(aa:w.cell? (LD a 0)=some (Mc cE 0))(o0:cE<w.heap.size)(ej:a<w.heap.size) :
  MC 108 #[.iface 31 (LJ n),.iface 84 (Mc cE 0),.agg #[Mc 13 84,Mc a 0,.int .u64 150],.iface 208 (.agg #[Mc 13 31])] w λe w'=>
   e=MN (L9 true)/\w'.cell? (LD cE 0)=some (LJ n)/\Below cE w w':=by
 have JU := @zalce prog 179 _ ReflectliteType.typeOf func179 Nw Nw Nw Nw; have JO := @zalce prog 341 _ (ReflectliteType.relation "AssignableTo" ReflectliteType.assignableTo) func341 Nw Nw Nw Nw; have vp := @zalce prog 180 _ (ReflectliteValue.method (ReflectliteValue.valueError "reflectlite.Value.Elem" 0) ReflectliteValue.elem) func180 Nw Nw Nw Nw; have JV := @zalce prog 181 _ ReflectliteValue.set func181 Nw Nw Nw Nw
 have Gm:=@zalce prog 105 _ (λargs=>ReflectliteValue.unpack (args.getD 0 (.tuple #[]))) func105 Nw Nw Nw Nw;have K7:=R9.anb;have KN:=R9.apH;have FK:=R9.adz;have Lf:=R9.akI;have F5:=R9.apI (LD a 0) (LD cE 0) (w.alloc (.cells #[Mc 13 84,Mc a 0,.int .u64 150] 152)) (by rw[zalbi _ _ _ ej];exact aa)
 have st:=R9.awO (LD cE 0) (LD (w.heap.size+1) 0) n (LJ 0) ((w.alloc (.cells #[Mc 13 84,Mc a 0,.int .u64 150] 152)).alloc (.cells #[LJ n] 31))
  (by rw[zaldb _ _ _ _ MP];rfl) (by rw[zalbi _ _ _ OM,zalbi _ _ _ o0];exact ce) (by rw[zaleu _ _ _ OM,zaleu _ _ _ OM];exact ai)
 go_enter func108,ntmps108
 go_wp2
 refine ahU ?_
 go_wp2
 go_ret;exact⟨rfl,asQ _ _ ce o0⟩
def asR (n:Int)(cE:Nat)(w:LK)(ce:w.cell? (LD cE 0)=some (LJ 0))(ai:w.frozen? (LD cE 0)=false)(o0:cE<w.heap.size)(hg:w.cell? (LD 0 0)=some (.iface 208 (.agg #[Mc 13 28]))) :
  MC 45 #[.iface 31 (LJ n),.iface 84 (Mc cE 0)] w λe w'=>e=MN (L9 true)/\w'.cell? (LD cE 0)=some (LJ n)/\Below cE w w':=by
 have Gm := @zalce prog 105 _ (λargs => ReflectliteValue.unpack (args.getD 0 (.tuple #[]))) func105 Nw Nw Nw Nw; have JS := @zalce prog 106 _ (ReflectliteValue.methodAny (ReflectliteValue.valueError "reflectlite.Value.Type" 0) (λt _ _ _ => ReflectliteType.toType t)) func106 Nw Nw Nw Nw; have JT := @zalce prog 107 _ (ReflectliteValue.method (ReflectliteValue.valueError "reflectlite.Value.IsNil" 0) ReflectliteValue.isNil) func107 Nw Nw Nw Nw
 have JW := @zalce prog 330 _ (ReflectliteType.abiMethod λt => do pure (.int .u8 (<- Rtype.kind t))) func330 Nw Nw Nw Nw; have JP := @zalce prog 343 _ (ReflectliteType.method ReflectliteType.elem) func343 Nw Nw Nw Nw; have JQ := @zalce prog 344 _ (ReflectliteType.relation "Implements" ReflectliteType.implements_) func344 Nw Nw Nw Nw; have Lh := R9.akJ; have K6 := R9.asT; have KQ := R9.awP; have KO := R9.awQ; have KP := R9.awR; have KE := R9.asU; have pp := R9.asV; have Ji := R9.asW
 have KA:=R9.adA;have de:0<w.heap.size:=by
  rcases zalgd 0 w.heap.size with h|h
  ·exact h
  ·simp[World.cell?,zaldo h] at hg
 obtain⟨dB,fB⟩:∃ dB,dB=(w.alloc (.cells #[Mc cE 0] 84)).alloc (.cells #[Mc 13 84,Mc w.heap.size 0,.int .u64 150] 152):=⟨_,rfl⟩;have jc:((w.alloc (.cells #[Mc cE 0] 84)).alloc (.cells #[Mc 13 84,Mc w.heap.size 0,.int .u64 150] 152)).cell? (LD 0 0)=some (.iface 208 (.agg #[Mc 13 28])):=by
  rw[zalbi _ _ _ (by simp <;> omega),zalbi _ _ _ de];exact hg
 have aa:dB.cell? (LD w.heap.size 0)=some (Mc cE 0):=by
  rw[fB,zalbi _ _ _ MP,zaldb _ _ _ _ rfl];rfl
 have vv:dB.cell? (LD cE 0)=some (LJ 0):=by rw[fB,zalbi _ _ _ OM,zalbi _ _ _ o0];exact ce
 have vq:dB.frozen? (LD cE 0)=false:=by rw[fB,zaleu _ _ _ OM,zaleu _ _ _ OM];exact ai
 have bM:dB.heap.size=w.heap.size+2:=by rw[fB];simp
 have gI:Below cE w dB:=by rw[fB];exact(O4.alloc (nLz o0) _).alloc OM _
 have oo:=R9.apK (LD w.heap.size 0) (LD cE 0) dB aa;rw[fB] at oo;have ag:Hid _:=as_hit n cE w.heap.size dB vv vq aa LM LM;have ba:=hide gI;rw[fB] at ag ba;clear gI bM vq vv aa fB dB;go_enter func45,ntmps45;go_wp2_with fail;refine NJ ?_;rintro e w2 ⟨rfl,db,a5⟩;have b9:=hide db;have bj:=hide a5;clear db;go_wp2;go_ret;exact⟨rfl,b9.out,ba.out.trans bj.out⟩
end
section
open Go.RowKit Go.Extern.Stop Go.Stop Go.Extern
abbrev QZ (w:LK):Prop:=w.cell? (LD 0 0)=some (.iface 208 (.agg #[Mc 13 28]))
def XI {w:LK}(h:QZ w):0<w.heap.size:=by
 rcases zalgd 0 w.heap.size with cH|cH
 ·exact cH
 ·simp[QZ,World.cell?,zaldo cH] at h
def RZ {w w':LK}(h:QZ w)(D:LX w w'):QZ w':=by
 unfold QZ;rw[D.cell (p:=(LD 0 0)) (XI h)];exact h
section
variable (n:Int) (w:LK) (hg:QZ w)
include n w hg
def apl :
  MC 15 #[.iface 31 (LJ n)] w λe w'=>e=MN (LJ n)/\LX w w':=by
 have de:=XI hg;obtain⟨dB,fB⟩:∃ dB,dB=w.alloc (.cells #[LJ 0] 31):=⟨_,rfl⟩;have ce:dB.cell? (LD w.heap.size 0)=some (LJ 0):=by rw[fB,zaldb _ _ _ _ rfl];rfl
 have ai:dB.frozen? (LD w.heap.size 0)=false:=by rw[fB];exact World.frozen?_alloc_at _ _ _ _ rfl
 have bM:dB.heap.size=w.heap.size+1:=by rw[fB];simp
 have gd:QZ dB:=by unfold QZ;rw[fB,zalbi _ _ _ de];exact hg
 have gI:LX w dB:=by rw[fB];exact Qn
 have ag:Hid _:=asR n w.heap.size dB ce ai LM gd;have ba:=hide gI;rw[fB] at ag ba;clear gI gd bM ai ce fB dB de;go_enter func15,ntmps15;go_wp2_with fail;refine NJ ?_;rintro e w2 ⟨rfl,db,a5⟩;have bj:=hide a5;go_wp2;go_ret;exact⟨rfl,ba.out.trans bj.out⟩
def am1 :
  MC 117 #[.iface 31 (LJ n)] w λe w'=>e=MN (.tuple #[LJ n,LJ (-1)])/\LX w w':=by
 have KW:∀ (v:LY) (ur:TypeId) (w:LK),(Instr.typeAssert (.iface 31 v) ur 216 true).run prog w=.ok (.tuple #[nIZ,L9 false]) w:=λv ur w=>run_typeAssert_lacksB underlying216 Nw Nw v ur w;have FK:∀ w:LK,(Instr.typeAssert (.iface 31 (LJ n)) 28 144 true).run prog w=.ok (.tuple #[Pe,L9 false]) w:=λw=>by kernel_rfl
 have f3:=hide hg;go_enter func117,ntmps117;go_wp2_with fail;refine(apl n w f3.out).mono ?_;rintro e w1 ⟨rfl,D⟩;have aV:=hide D;go_wp2_with fail;refine ahU ?_;go_wp2
 go_ret2
 exact⟨rfl,aV.out⟩
def as1 :
  MC 58 #[.iface 31 (LJ n),.agg #[LJ n,LJ (-1)]] w λe w'=>e=MN (L9 true)/\LX w w':=by
 have ag:Hid _:=am1 n (w.alloc (.cells #[LJ n,LJ (-1)] 86)) (RZ hg Qn);go_enter func58,ntmps58;go_wp2_with fail;refine NJ ?_;rintro e w1 ⟨rfl,D⟩;obtain⟨am,an⟩:=XC D;have aV:=hide D;go_wp2;go_ret;exact⟨rfl,Qn.trans (aV.out.mono MP)⟩
