/-
  The document's parser: blocks.
-/
import Derived.Test.YtoimgcjbcbhclaaGreatDoorWt32
import Derived.Test.YtoimgcjbcbhclaaGreatDoorWt21
set_option maxRecDepth 100000
set_option maxHeartbeats 16000000
namespace Go.Proofs.YtoimgcjbcbhclaaGreatDoor
open Go.RowKit
def bodyB (body:Bool)(r:PR Tr):PR Tr:=if body then r.bind fun t j=>.ok (codeT t) j else r
theorem bodyB_bad (body:Bool)(er:Int)(p:Nat):bodyB body (.bad er p)=.bad er p:=by cases body <;> rfl
theorem bodyB_out (body:Bool):bodyB body .out=.out:=by cases body <;> rfl
def MustD (c:PC)(s:ByteArray)(i:Nat)(w:World)(w1:World):Prop:=
 ((∃ j,mustP c.l s i=.ok () j∧Ps c w1 j 0 (-1))∨(∃ er pl,mustP c.l s i=.bad er pl∧er≠0∧∃ j,Ps c w1 j er (pl:Int)))∧Ap c.P w.heap.size w w1
theorem must_d {c:PC}{s:ByteArray}{i:Nat}{w w1:World}{e:Ending}(h:QPost c w (fun _ (_:Unit) v=>ZU v) ZU (mustP c.l s i) e w1):e=.returned (.tuple #[])∧MustD c s i w w1:=by
 cases hr:mustP c.l s i with
 | out=>
  exfalso;unfold mustP badF at hr
  split at hr <;> cases hr
 | ok x j=>
  rw[hr] at h;obtain⟨⟨v,rfl,rfl⟩,h2,h3⟩:=h;exact⟨rfl,Or.inl ⟨j,hr,h2⟩,h3⟩
 | bad er pl=>
  rw[hr] at h;obtain⟨⟨v,rfl,rfl⟩,h2,he,h3⟩:=h;exact⟨rfl,Or.inr ⟨er,pl,hr,he,h2⟩,h3⟩
theorem rok_new {c:PC}{w:World}{i:Nat}(h:Ps c w i 0 (-1)):Calls Tryz.prog 110 #[pPtr c] w fun e w'=>e=.returned (.bool true)∧w'=w:=rok_any c w i 0 (-1) h
theorem rok_old {c:PC}{w:World}{i:Nat}{er pl:Int}(he:er≠0)(h:Ps c w i er pl):Calls Tryz.prog 110 #[pPtr c] w fun e w'=>e=.returned (.bool false)∧w'=w:=by
 have:=rok_any c w i er pl h
 rw[beq_eq_false_iff_ne.2 he] at this
 exact this
theorem mem_snoc {α:Type}{p:α→Prop}{l:List α}{x:α}(h:∀ t ∈ l,p t)(hx:p x):∀ t ∈ l++[x],p t:=by
 intro t ht
 rcases List.mem_append.1 ht with h1|h1
 ·exact h t h1
 ·rw[List.mem_singleton.1 h1];exact hx
open zrqdy in
theorem rbraces_any {c:PC}{F:Fns}(hF:RCt c F)(hN:∃ k,FNx c.l k F)(hK:FOk F)(body:Bool)(w:World)(d i:Nat)(r:PR Tr)(hd30:d≤30)(hs:r=bodyB body (blockP c.l F d i))(ho:r≠.out)(h:Ps c w i 0 (-1)) :
  Calls Tryz.prog 186 #[pPtr c,.int .i64 (d:Int),.bool body] w (QPost c w (NV w.heap.size) ZN r):=by
 obtain⟨i0,hi0,hz0,hz1,hz2⟩:=info_parts info22
 have HC:=hide (rmust_any c w i tLBrace (by decide) h)
 have HLT:=hide h.rlt
 have HL:=hide h.base.len
 have HLO:=hide h.base.size
 unfold blockP at hs
 have HS:=hide hs
 have HO:=hide ho
 have HF:=hide hF
 have HNX:=hide hN
 have HKO:=hide hK
 clear h hs ho hF hN hK
 go_enter Tryz.func186,Tryz.ntmps186
 go_wp2_with fail
 refine cm HC.out ?_
 intro e w1 hp
 obtain⟨rfl,hm⟩:=must_d hp
 have HM:=hide hm
 clear hp hm HC
 go_wp2_with fail
 go_loopg [7] F.fuel (fun k v wr=>(∃ acc j,bodyB body ((blockLoop c.l F d k acc j).bind fun ts i2=>.ok (.mk 6 noText 0 ts) i2)=r∧KV w.heap.size wr acc v∧Ps c wr j 0 (-1)∧Ap c.P w.heap.size w wr∧acc.length≤j∧(∀ t ∈ acc,t.kd=15→∃ x y,t.kids=x::y))
  ∨ (∃ er pl,r=.bad er pl∧er≠0∧(∃ j,Ps c wr j er (pl:Int))∧Ap c.P w.heap.size w wr∧ZL v))
 case atStart=>
  obtain⟨hm,ha⟩:=unhide HM
  rcases hm with ⟨j,hm,hp⟩|⟨er,pl,hm,he,hp⟩
  ·refine Or.inl ⟨[],j,?_,KV.nil _ _,hp,ha,Nat.zero_le _,by simp⟩;rw[HS.out,hm];rfl
  ·refine Or.inr ⟨er,pl,?_,he,hp,ha,_,_,_,rfl⟩;rw[HS.out,hm];exact bodyB_bad _ _ _
 case round=>
  clear HM HS
  rcases hrel with ⟨acc,j,hq,hkv,hps,hap,hle,hall⟩|⟨er,pl,hq,he,⟨j,hps⟩,hap,a,n,kk,rfl⟩
  ·obtain⟨k,rfl⟩:∃ k,gk=k+1:=by
    cases gk with
    | zero=>rw[show blockLoop c.l F d 0 acc j=.out from rfl] at hq;exact absurd (hq.symm.trans (bodyB_out body)) HO.out
    | succ k=>exact⟨k,rfl⟩
   have HC1:=hide (rok_new hps);have HC2:=hide (rnext_any c wr j tRBrace (by decide) hps);have HP1:=hide hps;have HA1:=hide hap;have HK1:=hide hkv;have hL:=unhide HL;have hjl:=hps.lt
   by_cases hx:fx c.l j=tRBrace
   ·have HQ:Hid (bodyB body (.ok (.mk 6 noText 0 acc) (j+1))=r):=by
     unfold blockLoop at hq;rw[if_pos hx] at hq;exact hq
    have HALL:=hide hall;have hd1:decide (fx c.l j=tRBrace)=true:=decide_eq_true hx;rw[hd1] at HC2;obtain⟨va,vc,rfl⟩:=hkv.shape;have HX:=hide hx;clear hq hkv hps hap hx hd1 hall;exact zreg
   ·have HQ:Hid (bodyB body ((deepP c.l F.st d j).bind (fun t i1=>(blockLoop c.l F d k (acc++[t]) i1).bind fun ts i2=>PR.ok (.mk 6 noText 0 ts) i2))=r):=by
     unfold blockLoop at hq;rw[if_neg hx] at hq;rw[←hq]
     cases deepP c.l F.st d j <;> rfl
    have HALL:=hide hall;have hd1:decide (fx c.l j=tRBrace)=false:=decide_eq_false hx;rw[hd1] at HC2;have HRV:=hide hkv;clear hq hkv hps hap hx hd1 hall
    cases hr:deepP c.l F.st d j with
    | out=>
     rw[hr] at HQ;exact absurd (HQ.out.symm.trans (bodyB_out body)) HO.out
    | bad er pl=>
     have HRR:=hide hr;rw[hr] at HQ;have hq:r=.bad er pl:=HQ.out.symm.trans (bodyB_bad body er pl);have HQQ:=hide hq;clear hr hq HQ;obtain⟨va,vc,hve⟩:=HRV.out.shape;subst hve;go_wp2_with fail
     refine cm HC1.out ?_;rintro e w2 ⟨rfl,rfl⟩;clear HC1;go_wp2_with fail;refine cm HC2.out ?_;rintro e w3 ⟨rfl,hb3⟩;have HP3:=hide (HP1.out.later hb3);have HA3:=hide (HA1.out.next (Ap.of hb3))
     have HK3:=hide (KV.later HK1.out (Ap.of (R:=c.P) hb3) HLT.out);have HC3:=hide (HF.out.st w3 d j _ hd30 HRR.out.symm (by nofun) (HP1.out.later hb3));clear hb3 HC2 HP1 HA1 HK1;go_wp2_with fail
     refine cm HC3.out ?_;rintro e w4 ⟨⟨v,rfl,p4,rfl⟩,hp4,he,ha4⟩;have HP4:=hide hp4;have HA4:=hide (HA3.out.next ha4);have HK4:=hide (KV.later HK3.out ha4 HLT.out);clear hp4 ha4 HC3 HP3 HA3 HK3
     obtain⟨ps,hown,hk4⟩:=unhide HK4;have hlen:=NAts.length _ _ hk4;have hOB:=own_lt hown;rw[hlen] at hown;have HOWN:=hide hown;have HLEN:=hide hlen;have HKK:=hide hk4;have hsz:=HA4.out.size
     have HOB:=hide hOB;clear hown hk4 HK4 hOB hlen
     go_wp2_with (at_builtin;refine wpList_append_lies _ rfl _ _ 46 rfl w.heap.size 22 i0 (.pointer none) 1 8 Tryz.underlying46 hi0 hz0 hz1 hz2 rfl (by decide) _ _ _ rfl (HOWN.out.alloc _) ⟨w4.heap.size,0,none⟩ 1 1 [nPtr p4] rfl rfl (one_cells w4 p4 _ rfl) (one_one p4) (by decide) (by unfold maxLen;omega) (by omega) (by simp;omega) (w4.heap.size+1) (by simp) ?_)
     intro g cap w5 hown' hgrow hg _;have HA5:=hide ((HA4.out.alloc hsz (.cells #[nPtr p4] 22)).grown hgrow (by simp;omega) (fun k hk=>(unhide HOB k hk).2))
     have HP5:Hid (∃ j,Ps c w5 j er (pl:Int)):=by
      obtain⟨j2,hp⟩:=unhide HP4;exact⟨j2,hp.ap (((Below.refl w.heap.size w4).alloc hsz (.cells #[nPtr p4] 22)).grown hgrow (by simp;omega) (fun k hk=>(unhide HOB k hk).2)) HLO.out⟩
     clear hown' hgrow hg HKK HOWN;go_wp2_with fail
     go_roundg k
     case measure=>omega
     case rel=>exact Or.inr ⟨er,pl,HQQ.out,he,HP5.out,HA5.out,_,_,_,rfl⟩
    | ok t j2=>
     have HRR:=hide hr;rw[hr] at HQ;have hq:bodyB body ((blockLoop c.l F d k (acc++[t]) j2).bind fun ts i2=>PR.ok (.mk 6 noText 0 ts) i2)=r:=unhide HQ;have HQQ:=hide hq;clear hr hq HQ
     obtain⟨va,vc,hve⟩:=HRV.out.shape;subst hve;go_wp2_with fail;refine cm HC1.out ?_;rintro e w2 ⟨rfl,rfl⟩;clear HC1;go_wp2_with fail;refine cm HC2.out ?_;rintro e w3 ⟨rfl,hb3⟩
     have HP3:=hide (HP1.out.later hb3);have HA3:=hide (HA1.out.next (Ap.of hb3));have HK3:=hide (KV.later HK1.out (Ap.of (R:=c.P) hb3) HLT.out)
     have HC3:=hide (HF.out.st w3 d j _ hd30 HRR.out.symm (by nofun) (HP1.out.later hb3));clear hb3 HC2 HP1 HA1 HK1;go_wp2_with fail;refine cm HC3.out ?_;rintro e w4 ⟨⟨v,rfl,p4,rfl,hn4⟩,hp4,ha4⟩
     have HP4:=hide hp4;have HA4:=hide (HA3.out.next ha4);have HN4:=hide (apart_at HK3.out HA3.out.size ha4 HLT.out hn4);have HK4:=hide (KV.later HK3.out ha4 HLT.out);have hlt2:=hp4.lt
     have hgt:j<j2:=by
      obtain⟨kk,hkk⟩:=unhide HNX;exact((deepP_nx (l:=c.l) (d:=d) (hkk.st (d+1) j hjl)).2 t j2 HRR.out).1
     clear hp4 ha4 hn4 HC3 HP3 HA3 HK3;exact zrdr
  ·have HC1:=hide (rok_old he hps);have HC2:=hide (rmust_old c wr j er pl he tRBrace hps);have HP1:=hide hps;have HA1:=hide hap;clear hps hap;subst hq;go_wp2_with fail;refine cm HC1.out ?_
   rintro e w2 ⟨rfl,rfl⟩;clear HC1;go_wp2_with fail;refine cm HC2.out ?_;rintro e w3 ⟨rfl,rfl⟩;clear HC2
   cases body with
   | false=>
    go_wp2_with fail;go_ret;exact⟨⟨_,rfl,_,rfl⟩,⟨j,HP1.out.alloc _⟩,he,HA1.out.alloc HA1.out.size _⟩
   | true=>
    have HC3:=hide (rok_old he (HP1.out.alloc (nodeObj 6 noText 0 (.slice a n kk))));go_wp2_with fail;refine cm HC3.out ?_;rintro e w4 ⟨rfl,rfl⟩;clear HC3;go_wp2_with fail;go_ret
    exact⟨⟨_,rfl,_,rfl⟩,⟨j,HP1.out.alloc _⟩,he,HA1.out.alloc HA1.out.size _⟩
theorem rbraces_old (c:PC)(w:World)(i:Nat)(er pl D:Int)(body:Bool)(he:er≠0)(h:Ps c w i er pl) :
  Calls Tryz.prog 186 #[pPtr c,.int .i64 D,.bool body] w (NPost c w er pl ZN):=by
 have HC:=hide (rmust_old c w i er pl he tLBrace h)
 have HP:=hide h
 clear h
 go_enter Tryz.func186,Tryz.ntmps186
 go_wp2_with fail
 refine cm HC.out ?_
 rintro e w1 ⟨rfl,rfl⟩
 clear HC
 have HC1:=hide (rok_old he HP.out)
 have HC2:=hide (rmust_old c w1 i er pl he tRBrace HP.out)
 go_wp2_with fail
 refine wp_loop_rounds 1 ?_
 rw[rounds_succ]
 go_wp2_with fail
 refine cm HC1.out ?_
 rintro e w2 ⟨rfl,rfl⟩
 clear HC1
 go_wp2_with fail
 refine cm HC2.out ?_
 rintro e w3 ⟨rfl,rfl⟩
 clear HC2
 cases body with
 | false=>
  exact zbgz
 | true=>
  have HC3:=hide (rok_old he (HP.out.alloc (nodeObj 6 noText 0 (.slice none 0 0))));go_wp2_with fail;refine cm HC3.out ?_;rintro e w4 ⟨rfl,rfl⟩;clear HC3;exact zbgz
theorem rlist_old (c:PC)(w:World)(i:Nat)(er pl:Int)(s:ByteArray)(fv:Value)(he:er≠0)(h:Ps c w i er pl) :
  Calls Tryz.prog 252 #[pPtr c,.string s,fv] w fun e w'=>e=.returned (.slice none 0 0)∧w'=w:=by
 have HC1:=hide (rok_old he h)
 have HC2:=hide (rmust_old c w i er pl he s h)
 clear h
 go_enter Tryz.func252,Tryz.ntmps252
 go_wp2_with fail
 refine wp_loop_rounds 1 ?_
 rw[rounds_succ]
 go_wp2_with fail
 refine cm HC1.out ?_
 rintro e w2 ⟨rfl,rfl⟩
 clear HC1
 go_wp2_with fail
 refine cm HC2.out ?_
 rintro e w3 ⟨rfl,rfl⟩
 clear HC2
 go_wp2_with fail
 go_ret
 exact⟨rfl,rfl⟩
structure PartC (c:PC)(lo:Nat)(K:World→Prop)(f:Nat)(caps:Array Value)(part:Nat→PR Tr):Prop where
 enters:∀ args W,(callFunc f args).run Tryz.prog W=.ok (.enter f args) W
 stays:∀ W W',K W→c.P<W.heap.size→Ap c.P W.heap.size W W'→K W'
 does:∀ W i r,K W→r=part i→r≠.out→Ps c W i 0 (-1)→Calls Tryz.prog f caps W (QPost c W (NV W.heap.size) ZN r)
 /-- What it leans on lies in blocks below a bound. -/
 kept:∀ B W W',K W→Below B W W'→lo≤B→K W'
def RowZ (B:Nat)(w:World)(v:Value):Prop:=∃ ps:List Nat,ps.length≤9∧w.ownsRow B 22 1 v ps.length (ps.map nPtr)
theorem RowZ.of {B:Nat}{w:World}{ts:List Tr}{v:Value}(h:KV B w ts v)(hl:ts.length≤8):RowZ B w v:=by
 obtain⟨ps,hr,hk⟩:=h
 exact⟨ps,by rw[NAts.length _ _ hk];omega,hr⟩
def LPost (c:PC)(w:World)(r:PR (List Tr))(e:Ending)(w':World):Prop:=
 match r with
 | .ok ts j=>(∃ v,e=.returned v∧KV w.heap.size w' ts v∧ts.length≤8)∧Ps c w' j 0 (-1)∧Ap c.P w.heap.size w w'
 | .bad er pl=>(∃ v,e=.returned v∧RowZ w.heap.size w' v)∧(∃ j,Ps c w' j er (pl:Int))∧er≠0∧Ap c.P w.heap.size w w'
 | .out=>True
section
variable {c:PC} {K:World→Prop} {f:Nat} {caps:Array Value} {part:Nat→PR Tr} {lo:Nat} (hp:PartC c lo K f caps part) (s:ByteArray) (hsn:s≠noText) (n:Nat) (w:World) (i:Nat) (r:PR (List Tr)) (hs:r=rlistLoop c.l s part n [] i) (ho:r≠.out) (hk:K w) (hlo:lo≤w.heap.size) (h:Ps c w i 0 (-1))
include c K f caps part lo hp s hsn n w i r hs ho hk hlo h
open zrqdz in
theorem rlist_all :
  Calls Tryz.prog 252 #[pPtr c,.string s,.func (.func f) #[] caps] w (LPost c w r):=by
 have hen:=hp.enters
 obtain⟨i0,hi0,hz0,hz1,hz2⟩:=info_parts info22
 have HLT:=hide h.rlt
 have HL:=hide h.base.len
 have HLO:=hide h.base.size
 have HS:=hide hs
 have HO:=hide ho
 have HPC:=hide hp
 have HK0:=hide hk
 have HLB:=hide hlo
 have HP0:=hide h
 clear h hs ho hp hk hlo
 go_enter Tryz.func252,Tryz.ntmps252
 go_wp2_with fail
 go_loopg [7] n (fun k v wr=>(∃ acc j,rlistLoop c.l s part k acc j=r∧KV w.heap.size wr acc v∧Ps c wr j 0 (-1)∧Ap c.P w.heap.size w wr∧acc.length≤8∧K wr)
  ∨ (∃ er pl,r=.bad er pl∧er≠0∧(∃ j,Ps c wr j er (pl:Int))∧Ap c.P w.heap.size w wr∧RowZ w.heap.size wr v))
 case atStart=>exact Or.inl ⟨[],i,HS.out.symm,KV.nil _ _,HP0.out,Ap.refl _ _ _,by simp,HK0.out⟩
 case round=>
  clear HS HP0 HK0
  rcases hrel with ⟨acc,j,hq,hkv,hps,hap,hle,hkk⟩|⟨er,pl,hq,he,⟨j,hps⟩,hap,hrz⟩
  ·obtain⟨k,rfl⟩:∃ k,gk=k+1:=by
    exact zbed
   have HC1:=hide (rok_new hps);have HC2:=hide (rnext_any c wr j s hsn hps);have HP1:=hide hps;have HA1:=hide hap;have HK1:=hide hkv;have HKW:=hide hkk;have hL:=unhide HL;have hjl:=hps.lt
   by_cases hx:fx c.l j=s
   ·have HQ:Hid (PR.ok acc (j+1)=r):=by
     unfold rlistLoop at hq;rw[if_pos hx] at hq;exact hq
    have hd1:decide (fx c.l j=s)=true:=decide_eq_true hx;rw[hd1] at HC2;obtain⟨va,vc,rfl⟩:=hkv.shape;have HX:=hide hx;clear hq hkv hps hap hx hd1 hkk;go_wp2_with fail;refine cm HC1.out ?_
    rintro e w2 ⟨rfl,rfl⟩;clear HC1;go_wp2_with fail;refine cm HC2.out ?_;rintro e w3 ⟨rfl,hb3⟩;have HA3:=hide (HA1.out.next (Ap.of hb3));have HK3:=hide (KV.later HK1.out (Ap.of (R:=c.P) hb3) HLT.out)
    have HC3:=hide (rmust_any c w3 j s hsn (HP1.out.later hb3));clear hb3 HC2 HP1 HA1 HK1;go_wp2_with fail;refine cm HC3.out ?_;intro e w4 hp
    have hmm:mustP c.l s j=.ok () (j+1):=by unfold mustP;rw[if_pos HX.out]
    rw[hmm] at hp;obtain⟨⟨v,rfl,rfl⟩,hp4,ha4⟩:=hp;have HP4:=hide hp4;have HA4:=hide (HA3.out.next ha4);have HK4:=hide (KV.later HK3.out ha4 HLT.out);clear hp4 ha4 hmm HC3 HA3 HK3
    have hq:r=.ok acc (j+1):=HQ.out.symm;subst hq;go_wp2_with fail;go_ret;exact⟨⟨_,rfl,HK4.out,hle⟩,HP4.out,HA4.out⟩
   ·have HQ:Hid (((if acc.length=0 then PR.ok () j else mustP c.l tComma j).bind fun _ i1=>if acc.length=8 then badF c.l 4 i1 else (part i1).bind fun t i2=>rlistLoop c.l s part k (acc++[t]) i2)=r):=by
     unfold rlistLoop at hq;rw[if_neg hx] at hq;exact hq
    have hd1:decide (fx c.l j=s)=false:=decide_eq_false hx;rw[hd1] at HC2;obtain⟨va,vc,rfl⟩:=hkv.shape;clear hq hkv hps hap hx hd1 hkk;exact zreg
  ·obtain⟨zps,hzl,hzr⟩:=hrz;obtain⟨za,zc,rfl⟩:=row_shut hzr;have HZ:=hide hzr;clear hzr;have HC1:=hide (rok_old he hps);have HC2:=hide (rmust_old c wr j er pl he s hps);have HP1:=hide hps
   have HA1:=hide hap;clear hps hap;subst hq;go_wp2_with fail;refine cm HC1.out ?_;rintro e w2 ⟨rfl,rfl⟩;clear HC1;go_wp2_with fail;refine cm HC2.out ?_;rintro e w3 ⟨rfl,rfl⟩;clear HC2;go_wp2_with fail
   go_ret;exact⟨⟨_,rfl,zps,hzl,HZ.out⟩,⟨j,HP1.out⟩,he,HA1.out⟩
theorem rlist_any :
  Calls Tryz.prog 252 #[pPtr c,.string s,.func (.func f) #[] caps] w (QPost c w (KV w.heap.size) ZL r):=by
 refine cm (rlist_all hp s hsn n w i r hs ho hk hlo h) ?_
 intro e w' hh
 cases r with
 | out=>exact trivial
 | ok ts j=>
  obtain⟨⟨v,rfl,h1,_⟩,h2,h3⟩:=hh;exact⟨⟨v,rfl,h1⟩,h2,h3⟩
 | bad er pl=>
  obtain⟨⟨v,rfl,ps,_,h1⟩,h2,he,h3⟩:=hh;obtain⟨a,k,hv⟩:=row_shut h1;exact⟨⟨v,rfl,a,_,k,hv⟩,h2,he,h3⟩
end
structure BoxP (c:PC)(b:Nat)(W:World):Prop where
 blk:W.heap[b]? = some (.cells #[pPtr c] 164 (0,0))
 ne:b≠c.P
section
variable {c:PC} {b:Nat} {W:World} (h:BoxP c b W)
include c b W h
theorem BoxP.cell:W.cell? ⟨b,0,none⟩=some (pPtr c):=by rw[cell_of h.blk];rfl
theorem BoxP.lt:b<W.heap.size:=lt_of_heap h.blk
end
theorem BoxP.ap {c:PC}{b:Nat}{W W':World}(h:BoxP c b W)(ha:Ap c.P W.heap.size W W'):BoxP c b W':=⟨by rw[ha.block b h.lt h.ne];exact h.blk,h.ne⟩
theorem BoxP.below {c:PC}{b B:Nat}{W W':World}(h:BoxP c b W)(ha:Below B W W')(hb:b<B):BoxP c b W':=⟨by rw[ha.block b hb];exact h.blk,h.ne⟩
structure BoxN (c:PC)(b:Nat)(d:Nat)(W:World):Prop where
 blk:W.heap[b]? = some (.cells #[.int .i64 (d:Int)] 3 (0,0))
 ne:b≠c.P
section
variable {c:PC} {b d:Nat} {W:World} (h:BoxN c b d W)
include c b d W h
theorem BoxN.cell:W.cell? ⟨b,0,none⟩=some (.int .i64 (d:Int)):=by rw[cell_of h.blk];rfl
theorem BoxN.lt:b<W.heap.size:=lt_of_heap h.blk
end
theorem BoxN.ap {c:PC}{b d:Nat}{W W':World}(h:BoxN c b d W)(ha:Ap c.P W.heap.size W W'):BoxN c b d W':=⟨by rw[ha.block b h.lt h.ne];exact h.blk,h.ne⟩
theorem BoxN.below {c:PC}{b d B:Nat}{W W':World}(h:BoxN c b d W)(ha:Below B W W')(hb:b<B):BoxN c b d W':=⟨by rw[ha.block b hb];exact h.blk,h.ne⟩
theorem en142:∀ args W,(callFunc 253 args).run Tryz.prog W=.ok (.enter 253 args) W:=fun _ _=>by kernel_rfl
theorem nv_leaf {B:Nat}{w:World}(hB:B≤w.heap.size)(kd:Int)(tx:ByteArray)(z:Int):NV B (w.alloc (nodeObj kd tx z (.slice none 0 0))) (.mk kd tx z []) (nPtr w.heap.size):=(EV.new (KV.nil B w) hB kd tx z).nv
theorem rparam_does {c:PC}{b:Nat}(W:World)(i:Nat)(r:PR Tr)(hk:BoxP c b W)(hs:r=paramP c.l i)(ho:r≠.out)(h:Ps c W i 0 (-1)) :
  Calls Tryz.prog 253 #[.pointer (some ⟨b,0,none⟩)] W (QPost c W (NV W.heap.size) ZN r):=by
 have k0:=hk.cell
 unfold paramP at hs
 have HC:=hide (rident_any c W i h)
 have HS:=hide hs
 have HO:=hide ho
 clear hk h hs ho
 go_enter Tryz.func253,Tryz.ntmps253
 go_wp2_with fail
 refine cm HC.out ?_
 intro e w1 hp
 cases hr:nameP c.l i with
 | out=>rw[hr] at HS;exact absurd HS.out HO.out
 | bad er pl=>
  rw[hr] at hp HS;have hq:r=.bad er pl:=unhide HS;subst hq;obtain⟨⟨v,rfl,s,rfl⟩,⟨j,hp1⟩,he,ha⟩:=hp;have HP:=hide hp1;have HA:=hide ha;clear hp1 ha hr HC;go_wp2_with fail;go_ret
  exact⟨⟨_,rfl,_,rfl⟩,⟨j,HP.out.alloc _⟩,he,HA.out.alloc HA.out.size _⟩
 | ok x j=>
  rw[hr] at hp HS;have hq:r=.ok (.mk 23 x 0 []) j:=unhide HS;subst hq;obtain⟨⟨v,rfl,rfl⟩,hp1,ha⟩:=hp;have HP:=hide hp1;have HA:=hide ha;clear hp1 ha hr HC;go_wp2_with fail;go_ret
  exact⟨⟨_,rfl,nv_leaf HA.out.size 23 x 0⟩,HP.out.alloc _,HA.out.alloc HA.out.size _⟩
theorem param_part (c:PC)(b:Nat):PartC c (b+1) (BoxP c b) 253 #[.pointer (some ⟨b,0,none⟩)] (paramP c.l) where
 enters:=en142
 stays:=fun _ _ hk _ ha=>hk.ap ha
 does:=fun W i r hk hs ho h=>rparam_does W i r hk hs ho h
 kept:=fun _ _ _ hk ha hB=>hk.below ha (by omega)
theorem rfunction_old (c:PC)(w:World)(i:Nat)(er pl kd D:Int)(s:ByteArray)(he:er≠0)(h:Ps c w i er pl) :
  Calls Tryz.prog 189 #[pPtr c,.int .i64 kd,.string s,.int .i64 D] w (NPost c w er pl ZN):=by
 have HP1:=hide (h.alloc (.cells #[pPtr c] 164))
 have HC1:=hide (rmust_old c _ i er pl he tOpen HP1.out)
 have hb:(w.alloc (.cells #[pPtr c] 164)).cell? ⟨w.heap.size,0,none⟩=some (pPtr c):=by rw[cell_of (heap_new _ _)];rfl
 clear h
 go_enter Tryz.func189,Tryz.ntmps189
 go_wp2_with fail
 refine cm HC1.out ?_
 rintro e w1 ⟨rfl,rfl⟩
 clear HC1
 have HC2:=hide (rlist_old c _ i er pl tShut (.func (.func 253) #[] #[.pointer (some ⟨w.heap.size,0,none⟩)]) he HP1.out)
 go_wp2_with fail
 refine cm HC2.out ?_
 rintro e w2 ⟨rfl,rfl⟩
 clear HC2
 have HC3:=hide (rbraces_old c _ i er pl D true he (HP1.out.alloc (nodeObj 40 noText 0 (.slice none 0 0))))
 go_wp2_with fail
 refine cm HC3.out ?_
 rintro e w3 ⟨⟨v,rfl,q,rfl⟩,⟨j,hp3⟩,_,ha3⟩
 have HP3:=hide hp3
 have HA3:=hide ((((Ap.refl c.P w.heap.size w).alloc (Nat.le_refl _) (.cells #[pPtr c] 164)).alloc (by simp) (nodeObj 40 noText 0 (.slice none 0 0))).trans (ha3.mono (by simp;omega)))
 clear hp3 ha3 HC3
 go_wp2_with fail
 go_ret
 exact⟨⟨_,rfl,_,rfl⟩,⟨j,(HP3.out.alloc _).alloc _⟩,he,(HA3.out.alloc HA3.out.size _).alloc (by have:=HA3.out.size;simp;omega) _⟩
theorem setMap_new (W:World)(o1 o2:Obj):setMap (W.alloc o1) W.heap.size o2=W.alloc o2:=by
 have h:(W.heap.push o1).setIfInBounds W.heap.size o2=W.heap.push o2:=by
  apply Array.ext (by simp);intro k h1 h2;simp only[Array.size_setIfInBounds,Array.size_push] at h1;rw[Array.getElem_setIfInBounds (by simpa using h1)]
  by_cases hk:W.heap.size=k
  ·subst hk;simp
  ·rw[if_neg hk,Array.getElem_push_lt (by omega),Array.getElem_push_lt (by omega)]
 unfold setMap World.alloc
 simp only[h]
theorem upd_last (T E:TypeId)(W:World)(l:List (ByteArray × Value))(s:ByteArray)(v:Value)(k:Nat)(m m':Array MapEntry)(hk:k=l.length)(hm:m=mapOf l)(hm':m'=mapOf (l++[(s,v)]))(hT:Tryz.prog.underlying T=some (.map 9 E))(hn:l.find? (fun e=>decide (s=e.1))=none) :
  (Instr.mapUpdate T (.map (some W.heap.size)) (.string s) v).run Tryz.prog (W.alloc (.map m k))=.ok () (W.alloc (.map m' (k+1))):=by
 subst hk hm hm'
 rw[update_new T E W.heap.size l s v _ hT (heap_new _ _) hn,setMap_new]
theorem lookup_map1 (T E:TypeId)(m k:Nat)(l:List (ByteArray × Value))(s:ByteArray)(z:Value)(W:World)(hT:Tryz.prog.underlying T=some (.map 9 E))(hm:W.heap[m]? = some (.map (mapOf l) k))(hz:(zeroValue E).run Tryz.prog W=.ok z W) :
  (Instr.lookup T (.map (some m)) (.string s) false).run Tryz.prog W=.ok (((l.find? (fun e=>decide (s=e.1))).map (·.2)).getD z) W:=by
 exact zbca
def numsV (l:List (ByteArray × Int)):List (ByteArray × Value):=l.map fun e=>(e.1,.int .i64 e.2)
theorem look_nums (g k:Nat)(l:List (ByteArray × Int))(s:ByteArray)(W:World)(hm:W.heap[g]? = some (.map (mapOf (numsV l)) k)) :
  (Instr.lookup 89 (.map (some g)) (.string s) false).run Tryz.prog W=.ok (.int .i64 ((look2 l s).getD 0)) W:=by
 rw[lookup_map1 89 3 g k _ s (.int .i64 0) W Tryz.underlying89 hm (by kernel_rfl)]
 unfold numsV look2
 rw[List.find?_map]
 simp only[Function.comp_def]
 cases l.find? (fun e=>decide (s=e.1)) <;> rfl
theorem lits_made (W:World):∃ m1 m2 m3 m4:Array MapEntry,
  (Instr.makeMap 89 none).run Tryz.prog W=.ok (.map (some W.heap.size)) (W.alloc (.map #[] 0))
  ∧ (Instr.mapUpdate 89 (.map (some W.heap.size)) (.string tTrue) (.int .i64 19)).run Tryz.prog (W.alloc (.map #[] 0))=.ok () (W.alloc (.map m1 1))
  ∧ (Instr.mapUpdate 89 (.map (some W.heap.size)) (.string tFalse) (.int .i64 20)).run Tryz.prog (W.alloc (.map m1 1))=.ok () (W.alloc (.map m2 2))
  ∧ (Instr.mapUpdate 89 (.map (some W.heap.size)) (.string tNull) (.int .i64 21)).run Tryz.prog (W.alloc (.map m2 2))=.ok () (W.alloc (.map m3 3))
  ∧ (Instr.mapUpdate 89 (.map (some W.heap.size)) (.string tUndef) (.int .i64 22)).run Tryz.prog (W.alloc (.map m3 3))=.ok () (W.alloc (.map m4 4))
  ∧ ∀ s,(Instr.lookup 89 (.map (some W.heap.size)) (.string s) false).run Tryz.prog (W.alloc (.map m4 4))=.ok (.int .i64 (litK s)) (W.alloc (.map m4 4)):=by
 refine⟨mapOf (numsV (lits.take 1)),mapOf (numsV (lits.take 2)),mapOf (numsV (lits.take 3)),mapOf (numsV lits),mkMap 89 W,?_,?_,?_,?_,?_⟩
 ·exact upd_last 89 3 W [] tTrue _ 0 _ _ rfl rfl rfl Tryz.underlying89 rfl
 ·exact upd_last 89 3 W (numsV (lits.take 1)) tFalse _ 1 _ _ rfl rfl rfl Tryz.underlying89 (by decide +kernel)
 ·exact upd_last 89 3 W (numsV (lits.take 2)) tNull _ 2 _ _ rfl rfl rfl Tryz.underlying89 (by decide +kernel)
 ·exact upd_last 89 3 W (numsV (lits.take 3)) tUndef _ 3 _ _ rfl rfl rfl Tryz.underlying89 (by decide +kernel)
 ·intro s;exact look_nums W.heap.size 4 lits s _ (heap_new _ _)
theorem ops_made (W:World):∃ m1 m2 m3 m4 m5 m6 m7:Array MapEntry,
  (Instr.makeMap 89 none).run Tryz.prog W=.ok (.map (some W.heap.size)) (W.alloc (.map #[] 0))
  ∧ (Instr.mapUpdate 89 (.map (some W.heap.size)) (.string tOr) (.int .i64 25)).run Tryz.prog (W.alloc (.map #[] 0))=.ok () (W.alloc (.map m1 1))
  ∧ (Instr.mapUpdate 89 (.map (some W.heap.size)) (.string tAnd) (.int .i64 26)).run Tryz.prog (W.alloc (.map m1 1))=.ok () (W.alloc (.map m2 2))
  ∧ (Instr.mapUpdate 89 (.map (some W.heap.size)) (.string tSame) (.int .i64 27)).run Tryz.prog (W.alloc (.map m2 2))=.ok () (W.alloc (.map m3 3))
  ∧ (Instr.mapUpdate 89 (.map (some W.heap.size)) (.string tLess) (.int .i64 28)).run Tryz.prog (W.alloc (.map m3 3))=.ok () (W.alloc (.map m4 4))
  ∧ (Instr.mapUpdate 89 (.map (some W.heap.size)) (.string tAdd) (.int .i64 29)).run Tryz.prog (W.alloc (.map m4 4))=.ok () (W.alloc (.map m5 5))
  ∧ (Instr.mapUpdate 89 (.map (some W.heap.size)) (.string tSub) (.int .i64 30)).run Tryz.prog (W.alloc (.map m5 5))=.ok () (W.alloc (.map m6 6))
  ∧ (Instr.mapUpdate 89 (.map (some W.heap.size)) (.string tMul) (.int .i64 31)).run Tryz.prog (W.alloc (.map m6 6))=.ok () (W.alloc (.map m7 7))
  ∧ ∀ s,(Instr.lookup 89 (.map (some W.heap.size)) (.string s) false).run Tryz.prog (W.alloc (.map m7 7))=.ok (.int .i64 (opK s)) (W.alloc (.map m7 7)):=by
 refine⟨mapOf (numsV (ops.take 1)),mapOf (numsV (ops.take 2)),mapOf (numsV (ops.take 3)),mapOf (numsV (ops.take 4)),mapOf (numsV (ops.take 5)),mapOf (numsV (ops.take 6)),mapOf (numsV ops),mkMap 89 W,?_,?_,?_,?_,?_,?_,?_,?_⟩
 ·exact upd_last 89 3 W [] tOr _ 0 _ _ rfl rfl rfl Tryz.underlying89 rfl
 ·exact upd_last 89 3 W (numsV (ops.take 1)) tAnd _ 1 _ _ rfl rfl rfl Tryz.underlying89 (by decide +kernel)
 ·exact upd_last 89 3 W (numsV (ops.take 2)) tSame _ 2 _ _ rfl rfl rfl Tryz.underlying89 (by decide +kernel)
 ·exact upd_last 89 3 W (numsV (ops.take 3)) tLess _ 3 _ _ rfl rfl rfl Tryz.underlying89 (by decide +kernel)
 ·exact upd_last 89 3 W (numsV (ops.take 4)) tAdd _ 4 _ _ rfl rfl rfl Tryz.underlying89 (by decide +kernel)
 ·exact upd_last 89 3 W (numsV (ops.take 5)) tSub _ 5 _ _ rfl rfl rfl Tryz.underlying89 (by decide +kernel)
 ·exact upd_last 89 3 W (numsV (ops.take 6)) tMul _ 6 _ _ rfl rfl rfl Tryz.underlying89 (by decide +kernel)
 ·intro s;exact look_nums W.heap.size 7 ops s _ (heap_new _ _)
theorem rfunction_any {c:PC}{F:Fns}(hF:RCt c F)(hN:∃ k,FNx c.l k F)(hK:FOk F)(w:World)(kd:Int)(s:ByteArray)(d i:Nat)(r:PR Tr)(hd:d≤30)(hs:r=rfuncTail c.l F kd s d i)(ho:r≠.out)(h:Ps c w i 0 (-1)) :
  Calls Tryz.prog 189 #[pPtr c,.int .i64 kd,.string s,.int .i64 (d:Int)] w (QPost c w (NV w.heap.size) ZN r):=by
 unfold rfuncTail rparamsP at hs
 have HLT:=hide h.rlt
 have hne:w.heap.size≠c.P:=by have:=h.rlt;omega
 have HBX:Hid (BoxP c w.heap.size (w.alloc (.cells #[pPtr c] 164))):=⟨heap_new _ _,hne⟩
 have HP0:=hide (h.alloc (.cells #[pPtr c] 164))
 have HA0:=hide ((Ap.refl c.P w.heap.size w).alloc (Nat.le_refl _) (.cells #[pPtr c] 164))
 have HC1:=hide (rmust_any c _ i tOpen (by decide) HP0.out)
 have hb:=HBX.out.cell
 have HS:=hide hs
 have HO:=hide ho
 have HF:=hide hF
 have HNX:=hide hN
 have HKO:=hide hK
 clear h hs ho hF hN hK hne
 go_enter Tryz.func189,Tryz.ntmps189
 go_wp2_with fail
 refine cm HC1.out ?_
 intro e w1 hp
 cases hr:mustP c.l tOpen i with
 | out=>rw[hr] at HS;exact absurd HS.out HO.out
 | bad er pl=>
  rw[hr] at hp HS;have hq:r=.bad er pl:=unhide HS;subst hq;obtain⟨⟨v,rfl,rfl⟩,⟨j,hp1⟩,he,ha⟩:=hp;have HP1:=hide hp1;have HA1:=hide (HA0.out.trans (ha.mono (by simp)))
  have hb1:=(HBX.out.ap ha).cell;clear hp1 ha hr HC1 HP0 HA0 hb;have HC2:=hide (rlist_old c w1 j er pl tShut (.func (.func 253) #[] #[.pointer (some ⟨w.heap.size,0,none⟩)]) he HP1.out);go_wp2_with fail
  refine cm HC2.out ?_;rintro e w2 ⟨rfl,rfl⟩;clear HC2;have HC3:=hide (rbraces_old c _ j er pl d true he (HP1.out.alloc (nodeObj 40 noText 0 (.slice none 0 0))));have hwl:w.heap.size<w2.heap.size:=by
   rcases Nat.lt_or_ge w.heap.size w2.heap.size with h' | h'
   ·exact h'
   ·simp[World.cell?,Array.getElem?_eq_none h'] at hb1
  go_wp2_with fail;refine cm HC3.out ?_;rintro e w3 ⟨⟨v,rfl,q,rfl⟩,⟨j3,hp3⟩,_,ha3⟩;have HP3:=hide hp3
  have HA3:=hide ((HA1.out.alloc HA1.out.size (nodeObj 40 noText 0 (.slice none 0 0))).trans (ha3.mono (by simp;omega)))
  exact zbbw
 | ok x1 j1=>
  rw[hr] at hp HS;obtain⟨⟨v,rfl,rfl⟩,hp1,ha⟩:=hp;have HP1:=hide hp1;have HA1:=hide (HA0.out.trans (ha.mono (by simp)));have HBX1:=hide (HBX.out.ap ha);have hb1:=HBX1.out.cell;have hwl:=HBX1.out.lt
  clear hp1 ha hr HC1 HP0 HA0 hb HBX
  cases hr2:rlistLoop c.l tShut (paramP c.l) F.fuel [] j1 with
  | out=>rw[bind_ok,hr2] at HS;exact absurd HS.out HO.out
  | bad er pl=>
   have HC2:=hide (rlist_any (param_part c w.heap.size) tShut (by decide) F.fuel w1 j1 _ hr2.symm (by nofun) HBX1.out (by omega) HP1.out);rw[bind_ok,hr2] at HS;have hq:r=.bad er pl:=unhide HS;subst hq
   clear hr2;go_wp2_with fail;refine cm HC2.out ?_;rintro e w2 ⟨⟨v,rfl,a,n,k,rfl⟩,⟨j,hp2⟩,he,ha2⟩;have HP2:=hide hp2;have HA2:=hide (HA1.out.next ha2);have hb2:=(HBX1.out.ap ha2).cell
   have hwl2:=(HBX1.out.ap ha2).lt;clear hp2 ha2 HC2 HP1 HA1;have HC3:=hide (rbraces_old c _ j er pl d true he (HP2.out.alloc (nodeObj 40 noText 0 (.slice a n k))));go_wp2_with fail;refine cm HC3.out ?_
   rintro e w3 ⟨⟨v,rfl,q,rfl⟩,⟨j3,hp3⟩,_,ha3⟩;have HP3:=hide hp3;have HA3:=hide ((HA2.out.alloc HA2.out.size (nodeObj 40 noText 0 (.slice a n k))).trans (ha3.mono (by simp;omega)))
   exact zbbw
  | ok ts j2=>
   have HC2:=hide (rlist_any (param_part c w.heap.size) tShut (by decide) F.fuel w1 j1 _ hr2.symm (by nofun) HBX1.out (by omega) HP1.out);rw[bind_ok,hr2] at HS
   have hq:r=(blockP c.l F d j2).bind fun b i2=>.ok (.mk kd s 0 [.mk 40 noText 0 ts,codeT b]) i2:=unhide HS;have HQ:=hide hq;clear hr2 hq HS;go_wp2_with fail;refine cm HC2.out ?_
   rintro e w2 ⟨⟨v,rfl,hkv⟩,hp2,ha2⟩;obtain⟨a,k,rfl⟩:=hkv.shape;have HP2:=hide (hp2.alloc (nodeObj 40 noText 0 (.slice a ts.length k)))
   have HA2:=hide ((HA1.out.next ha2).alloc (HA1.out.next ha2).size (nodeObj 40 noText 0 (.slice a ts.length k)));have HNP:=hide (EV.new (hkv.mono HA1.out.size) (HA1.out.next ha2).size 40 noText 0).nv
   have hb2:=(HBX1.out.ap ha2).cell;have hwl2:=(HBX1.out.ap ha2).lt;clear hp2 ha2 HC2 HP1 HA1 hkv
   cases hr3:blockP c.l F d j2 with
   | out=>rw[hr3] at HQ;exact absurd HQ.out HO.out
   | bad er pl=>
    have HC3:=hide (rbraces_any HF.out HNX.out HKO.out true _ d j2 (.bad er pl) hd (by rw[hr3];rfl) (by nofun) HP2.out)
    rw[hr3] at HQ;have hq:r=.bad er pl:=unhide HQ;subst hq;clear hr3;go_wp2_with fail;refine cm HC3.out ?_;rintro e w3 ⟨⟨v,rfl,q,rfl⟩,⟨j3,hp3⟩,he,ha3⟩;have HP3:=hide hp3
    have HA3:=hide (HA2.out.trans (ha3.mono (by simp;omega)))
    exact zbbw
   | ok b j3=>
    have HC3:=hide (rbraces_any HF.out HNX.out HKO.out true _ d j2 (.ok (codeT b) j3) hd (by rw[hr3];rfl) (by nofun) HP2.out)
    rw[hr3] at HQ;have hq:r=.ok (.mk kd s 0 [.mk 40 noText 0 ts,codeT b]) j3:=unhide HQ;subst hq;clear hr3;go_wp2_with fail;refine cm HC3.out ?_;rintro e w3 ⟨⟨v,rfl,q,rfl,hn3⟩,hp3,ha3⟩
    have HP3:=hide hp3;have HA3:=hide (HA2.out.trans (ha3.mono (by simp;omega)))
    have HNP3:=hide (nats_two HNP.out ha3 HLT.out HA2.out.size hn3);clear hp3 ha3 HC3 hn3 HNP;go_wp2_with fail;go_ret
    refine⟨⟨_,rfl,(nv_row HNP3.out HA3.out.size (by simp[maxLen]) #[nPtr w2.heap.size,nPtr q] rfl 2 rfl kd s 0 _ rfl).nv⟩,(HP3.out.alloc _).alloc _,(HA3.out.alloc HA3.out.size _).alloc (by have:=HA3.out.size;simp;omega) _⟩
structure Box2 (c:PC)(b1 b2 d:Nat)(W:World):Prop where
 p:BoxP c b1 W
 n:BoxN c b2 d W
theorem Box2.ap {c:PC}{b1 b2 d:Nat}{W W':World}(h:Box2 c b1 b2 d W)(ha:Ap c.P W.heap.size W W'):Box2 c b1 b2 d W':=⟨h.p.ap ha,h.n.ap ha⟩
theorem en238:∀ args W,(callFunc 298 args).run Tryz.prog W=.ok (.enter 298 args) W:=fun _ _=>by kernel_rfl
theorem en251:∀ args W,(callFunc 306 args).run Tryz.prog W=.ok (.enter 306 args) W:=fun _ _=>by kernel_rfl
section
variable {c:PC} {F:Fns} (hF:RCt c F)
include c F hF
theorem rarg_does {b1 b2 d:Nat}(hd:d≤30)(W:World)(i:Nat)(r:PR Tr)(hk:Box2 c b1 b2 d W)(hs:r=argP c.l F d i)(ho:r≠.out)(h:Ps c W i 0 (-1)) :
  Calls Tryz.prog 298 #[.pointer (some ⟨b1,0,none⟩),.pointer (some ⟨b2,0,none⟩)] W (QPost c W (NV W.heap.size) ZN r):=by
 have k0:=hk.p.cell
 have k1:=hk.n.cell
 have HC:=hide (hF.vl W d i r hd hs ho h)
 have HO:=hide ho
 clear hk h hs ho hF
 go_enter Tryz.func298,Tryz.ntmps298
 exact zbdb
theorem arg_part (b1 b2 d:Nat)(hd:d≤30):PartC c (max b1 b2+1) (Box2 c b1 b2 d) 298 #[.pointer (some ⟨b1,0,none⟩),.pointer (some ⟨b2,0,none⟩)] (argP c.l F d) where
 enters:=en238
 stays:=fun _ _ hk _ ha=>hk.ap ha
 does:=fun W i r hk hs ho h=>rarg_does hF hd W i r hk hs ho h
 kept:=fun _ _ _ hk ha hB=>⟨hk.p.below ha (by omega),hk.n.below ha (by omega)⟩
theorem rprop_does {b1 b2 d:Nat}(hd:d≤30)(W:World)(i:Nat)(r:PR Tr)(hk:Box2 c b1 b2 d W)(hs:r=propP c.l F d i)(ho:r≠.out)(h:Ps c W i 0 (-1)) :
  Calls Tryz.prog 306 #[.pointer (some ⟨b1,0,none⟩),.pointer (some ⟨b2,0,none⟩)] W (QPost c W (NV W.heap.size) ZN r):=by
 have k0:=hk.p.cell
 have k1:=hk.n.cell
 unfold propP at hs
 have HC:=hide (rident_any c W i h)
 have HLT:=hide h.rlt
 have HBX:=hide hk
 have HS:=hide hs
 have HO:=hide ho
 have HF:=hide hF
 clear hk h hs ho hF
 go_enter Tryz.func306,Tryz.ntmps306
 go_wp2_with fail
 refine cm HC.out ?_
 intro e w1 hp
 clear k0 k1
 cases hr:nameP c.l i with
 | out=>rw[hr] at HS;exact absurd HS.out HO.out
 | bad er pl=>
  rw[hr] at hp HS;have hq:r=.bad er pl:=unhide HS;subst hq;obtain⟨⟨v,rfl,s,rfl⟩,⟨j,hp1⟩,he,ha⟩:=hp;have HP1:=hide hp1;have HA1:=hide ha;have k0:=(HBX.out.ap ha).p.cell
  have k1:=(HBX.out.ap ha).n.cell;have HC2:=hide (rmust_old c w1 j er pl he tColon hp1);have HC3:=hide (rvalue_old c w1 j er pl ((d:Int)+1) he hp1);clear hp1 ha hr HC;go_wp2_with fail;refine cm HC2.out ?_
  rintro e w2 ⟨rfl,rfl⟩;clear HC2;go_wp2_with fail;refine cm HC3.out ?_;rintro e w3 ⟨⟨v,rfl,q,rfl⟩,⟨j3,hp3⟩,_,ha3⟩;have HP3:=hide hp3;have HA3:=hide (HA1.out.next ha3);exact zbbw
 | ok x j1=>
  rw[hr] at hp HS;obtain⟨⟨v,rfl,rfl⟩,hp1,ha⟩:=hp;have HP1:=hide hp1;have HA1:=hide ha;have HB1:=hide (HBX.out.ap ha);have k0:=HB1.out.p.cell;have k1:=HB1.out.n.cell
  have HC2:=hide (rmust_any c w1 j1 tColon (by decide) hp1);clear hp1 ha hr HC HBX;go_wp2_with fail;refine cm HC2.out ?_;intro e w2 hp;clear k0 k1
  cases hr2:mustP c.l tColon j1 with
  | out=>rw[bind_ok,hr2] at HS;exact absurd HS.out HO.out
  | bad er pl=>
   rw[bind_ok,hr2] at HS;rw[hr2] at hp;have hq:r=.bad er pl:=unhide HS;subst hq;obtain⟨⟨v,rfl,rfl⟩,⟨j,hp2⟩,he,ha⟩:=hp;have HA2:=hide (HA1.out.next ha);have k0:=(HB1.out.ap ha).p.cell
   have k1:=(HB1.out.ap ha).n.cell;have HC3:=hide (rvalue_old c w2 j er pl ((d:Int)+1) he hp2);clear hp2 ha hr2 HC2;go_wp2_with fail;refine cm HC3.out ?_;rintro e w3 ⟨⟨v,rfl,q,rfl⟩,⟨j3,hp3⟩,_,ha3⟩
   have HP3:=hide hp3;have HA3:=hide (HA2.out.next ha3);exact zbbw
  | ok x2 j2=>
   rw[bind_ok,hr2] at HS;rw[hr2] at hp;obtain⟨⟨v,rfl,rfl⟩,hp2,ha⟩:=hp;have HA2:=hide (HA1.out.next ha);have HP2:=hide hp2;have k0:=(HB1.out.ap ha).p.cell;have k1:=(HB1.out.ap ha).n.cell
   have hq:r=(deepP c.l F.vl d j2).bind fun t i3=>.ok (.mk 39 x 0 [t]) i3:=unhide HS;have HQ:=hide hq;clear hp2 ha hr2 HC2 hq HS HA1 HP1
   cases hr3:deepP c.l F.vl d j2 with
   | out=>rw[hr3] at HQ;exact absurd HQ.out HO.out
   | bad er pl=>
    have HC3:=hide (HF.out.vl w2 d j2 _ hd hr3.symm (by nofun) HP2.out);rw[hr3] at HQ;have hq:r=.bad er pl:=unhide HQ;subst hq;clear hr3;go_wp2_with fail;refine cm HC3.out ?_
    rintro e w3 ⟨⟨v,rfl,q,rfl⟩,⟨j3,hp3⟩,he,ha3⟩;have HP3:=hide hp3;have HA3:=hide (HA2.out.next ha3);exact zbbw
   | ok t j3=>
    have HC3:=hide (HF.out.vl w2 d j2 _ hd hr3.symm (by nofun) HP2.out);rw[hr3] at HQ;have hq:r=.ok (.mk 39 x 0 [t]) j3:=unhide HQ;subst hq;clear hr3;go_wp2_with fail;refine cm HC3.out ?_
    rintro e w3 ⟨⟨v,rfl,q,rfl,hn⟩,hp3,ha3⟩;have HP3:=hide hp3;have HA3:=hide (HA2.out.next ha3)
    have HN3:Hid (NAt (fun b=>W.heap.size≤b) w3 t q):=NAt.mono (fun b hb _=>Nat.le_trans HA2.out.size hb) _ _ hn;clear hp3 ha3 HC3 hn;go_wp2_with fail;go_ret
    exact⟨⟨_,rfl,(nv_row (NAts.cons HN3.out NAts.nil) HA3.out.size (by simp[maxLen]) #[nPtr q] rfl 1 rfl 39 x 0 _ rfl).nv⟩,(HP3.out.alloc _).alloc _,(HA3.out.alloc HA3.out.size _).alloc (by have:=HA3.out.size;simp;omega) _⟩
theorem prop_part (b1 b2 d:Nat)(hd:d≤30):PartC c (max b1 b2+1) (Box2 c b1 b2 d) 306 #[.pointer (some ⟨b1,0,none⟩),.pointer (some ⟨b2,0,none⟩)] (propP c.l F d) where
 enters:=en251
 stays:=fun _ _ hk _ ha=>hk.ap ha
 does:=fun W i r hk hs ho h=>rprop_does hF hd W i r hk hs ho h
 kept:=fun _ _ _ hk ha hB=>⟨hk.p.below ha (by omega),hk.n.below ha (by omega)⟩
end
end Go.Proofs.YtoimgcjbcbhclaaGreatDoor
