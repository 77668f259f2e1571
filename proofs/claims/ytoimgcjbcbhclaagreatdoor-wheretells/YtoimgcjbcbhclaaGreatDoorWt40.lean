/-
  Two lists of tokens that are alike ahead of a place: what is read ahead of it, in the one, is read so in the other.
-/
import Derived.Test.YtoimgcjbcbhclaaGreatDoorWt39
import Derived.Test.YtoimgcjbcbhclaaGreatDoorWt31
namespace Go.Proofs.YtoimgcjbcbhclaaGreatDoor
def Js {α:Type}(A L a:Nat)(r r':PR α):Prop:=∀ x j,r=.ok x j→(a≤j∧j<L)∧(j<A→r'=.ok x j)
section
variable {α:Type}
include α
theorem Js.ok {A L a i:Nat}{x:α}(h1:a≤i)(h2:i<L):Js A L a (.ok x i) (.ok x i):=
 fun _ _ h=>by cases h;exact⟨⟨h1,h2⟩,fun _=>rfl⟩
theorem Js.bad {A L a:Nat}{er:Int}{p:Nat}{r:PR α}:Js A L a (.bad er p) r:=fun _ _ h=>by cases h
theorem Js.out {A L a:Nat}{r:PR α}:Js A L a .out r:=fun _ _ h=>by cases h
theorem Js.badF {A L a:Nat}{l:List Tk}{er:Int}{i:Nat}{r:PR α}:Js A L a (badF l er i) r:=Js.bad
theorem Js.le {A L a b:Nat}{r r':PR α}(h:Js A L a r r')(hb:b≤a):Js A L b r r':=fun x j e=>⟨⟨Nat.le_trans hb (h x j e).1.1,(h x j e).1.2⟩,(h x j e).2⟩
theorem Js.less {A B L a:Nat}{r r':PR α}(h:Js B L a r r')(hb:A≤B):Js A L a r r':=fun x j e=>⟨(h x j e).1,fun hj=>(h x j e).2 (by omega)⟩
theorem Js.low {A L a:Nat}{r r':PR α}(h:Js (A+1) L a r r'):Js A L a r r':=h.less (Nat.le_succ _)
theorem Js.far {A L a:Nat}{r r' r'':PR α}(h:Js A L a r r'')(ha:A≤a):Js A L a r r':=fun x j e=>⟨(h x j e).1,fun hj=>absurd (h x j e).1.1 (by omega)⟩
end
theorem Js.bindD {α β:Type}{A L a b:Nat}(dl:Nat){r r':PR α}{f f':α→Nat→PR β}(h:Js A L a r r')(hb:b≤a+dl)
  (hf:∀ x i,a≤i→i<L→Js (A+dl) L (i+dl) (f x i) (f' x i)):Js (A+dl) L b (r.bind f) (r'.bind f'):=by
 intro y j e
 cases r with
 | ok x i=>
  have h1:=h x i rfl;have h2:=hf x i h1.1.1 h1.1.2 y j e;refine⟨⟨by omega,h2.1.2⟩,fun hj=>?_⟩;rw[h1.2 (by omega)];exact h2.2 hj
 | bad er p=>cases e
 | out=>cases e
theorem Js.bind {α β:Type}{A L a b:Nat}{r r':PR α}{f f':α→Nat→PR β}(h:Js A L a r r')(hb:b≤a)
  (hf:∀ x i,a≤i→i<L→Js A L i (f x i) (f' x i)):Js A L b (r.bind f) (r'.bind f'):=Js.bindD 0 h hb hf
section
variable {l l':List Tk} {A:Nat} (hE:Ends l) (hA:∀ i,i<A→tkA l i=tkA l' i)
include hE hA
omit hE hA in
omit hE in
omit hE in
structure FJs (l:List Tk)(A:Nat)(F F':Fns):Prop where
 fuel:F.fuel=F'.fuel
 st:∀ d i,i<l.length→Js (A+1) l.length (i+1) (F.st d i) (F'.st d i)
 vl:∀ d i,i<l.length→Js A l.length (i+1) (F.vl d i) (F'.vl d i)
 pr:∀ b d i,i<l.length→Js A l.length (i+1) (F.pr b d i) (F'.pr b d i)
 sg:∀ d i,i<l.length→Js A l.length (i+1) (F.sg d i) (F'.sg d i)
def Parts (l l':List Tk)(A:Nat):Prop:=∀ s,s=tElse∨s=tCatch∨s=tFinally→fx l A≠s∧fx l' A≠s
variable {F F':Fns} (hF:FJs l A F F')
include hF
variable {k:Nat} (hN:FNx l k F)
include hN
end
end Go.Proofs.YtoimgcjbcbhclaaGreatDoor
namespace Go.Proofs.YtoimgcjbcbhclaaGreatDoor
def Sh {α:Type}(A:Nat)(r r':PR α):Prop:=∀ x j,r=.ok x j→r'=.ok x (A+j)
theorem Sh.ok {α:Type}{A i:Nat}{x:α}:Sh A (.ok x i) (.ok x (A+i)):=fun _ _ h=>by cases h;rfl
section
variable {α:Type} {A:Nat}
include α A
theorem Sh.bad {er:Int}{p:Nat}{r:PR α}:Sh A (.bad er p) r:=fun _ _ h=>by cases h
theorem Sh.out {r:PR α}:Sh A .out r:=fun _ _ h=>by cases h
theorem Sh.badF {l:List Tk}{er:Int}{i:Nat}{r:PR α}:Sh A (badF l er i) r:=Sh.bad
end
theorem Sh.bind {α β:Type}{A:Nat}{r r':PR α}{f f':α→Nat→PR β}(h:Sh A r r')(hf:∀ x i,Sh A (f x i) (f' x (A+i))):Sh A (r.bind f) (r'.bind f'):=by
 intro y j e
 cases r with
 | ok x i=>rw[h x i rfl];exact hf x i y j e
 | bad er p=>cases e
 | out=>cases e
structure Shifts (l l':List Tk)(A:Nat):Prop where
 kd:∀ i,(tkA l' (A+i)).kd=(tkA l i).kd
 tx:∀ i,(tkA l' (A+i)).tx=(tkA l i).tx
 n:∀ i,(tkA l' (A+i)).n=(tkA l i).n
section
variable {l l':List Tk} {A:Nat} (hA:Shifts l l' A)
include hA
omit hA in
structure FSh (A:Nat)(F F':Fns):Prop where
 fuel:F'.fuel=F.fuel
 st:∀ d i,Sh A (F.st d i) (F'.st d (A+i))
 vl:∀ d i,Sh A (F.vl d i) (F'.vl d (A+i))
 pr:∀ b d i,Sh A (F.pr b d i) (F'.pr b d (A+i))
 sg:∀ d i,Sh A (F.sg d i) (F'.sg d (A+i))
variable {F F':Fns} (hF:FSh A F F')
include hF
end
end Go.Proofs.YtoimgcjbcbhclaaGreatDoor
set_option maxRecDepth 100000
set_option maxHeartbeats 16000000
namespace Go.Proofs.YtoimgcjbcbhclaaGreatDoor
open Go.RowKit
def NoHead (s:ByteArray):Prop:=s=tElse∨s=tCatch∨s=tFinally
theorem NoHead.facts {s:ByteArray}(h:NoHead s):s≠noText∧look2 vlKeys s=none∧(sgP 0 s).isNone=true∧(sgP 1 s).isNone=true∧look2 stKeys s=none:=by
 rcases h with rfl|rfl|rfl <;> decide
section
variable {l:List Tk} {s:ByteArray} {i:Nat} (hs:NoHead s) (hf:fx l i=s)
include hs hf
end
theorem progP_inv {l:List Tk}{F:Fns}{t:Tr}{j:Nat}(h:progP l F=.ok t j):∃ ts,progLoop l F F.fuel [] 0=.ok ts j∧t=codeT (.mk 1 noText 0 ts):=by
 unfold progP at h
 obtain⟨ts,j1,h1,h⟩:=bind_inv h
 cases h
 exact⟨ts,h1,rfl⟩
structure SameAt (p q g h k L c1 c2 a b:Nat)(W:World):Prop where
 x3:W.cell? ⟨p,3,none⟩=some (.slice (some ⟨g,0,none⟩) L c1)
 y3:W.cell? ⟨q,3,none⟩=some (.slice (some ⟨h,0,none⟩) L c2)
 xk:W.cell? ⟨g,k,none⟩=some (nPtr a)
 yk:W.cell? ⟨h,k,none⟩=some (nPtr b)
theorem same_any (I J:Nat→Prop):∀ (m:Nat) (t:Tr),t.count≤m→t.count≤100000→∀ (p q:Nat) (w:World),NAt I w t p→NAt J w t q →
  Calls Tryz.prog 16 #[nPtr p,nPtr q] w fun e w'=>e=.returned (.bool true)∧Below w.heap.size w w':=by
 intro m
 induction m with
 | zero=>
  exact zbeo
 | succ m ih=>
  intro t ht hbd p q w hnp hnq;obtain⟨u,ps,hblk,hrow,hri,hks⟩:=hnp.opens2;obtain⟨v,qs,hblq,hroq,hrj,hkq⟩:=hnq.opens2;have hlen:=NAts.length _ _ hks;have hleq:=NAts.length _ _ hkq
  have htc:t.count=1+Tr.counts t.kids:=by cases t with|mk kd tx nn ks=>exact count_mk _ _ _ _
  obtain⟨f0,f1,f2,f3,_⟩:=node_cells hblk;obtain⟨g0,g1,g2,g3,_⟩:=node_cells hblq;obtain⟨ua,uc,hu⟩:=row_shut hrow;subst hu;obtain⟨va,vc,hv⟩:=row_shut hroq;subst hv;rw[hlen] at f3
  rw[hleq] at g3;have hkb:t.kids.length≤100000:=by have:=counts_len t.kids;omega
  obtain⟨kd,hkd⟩:∃ kd,kd=t.kd:=⟨_,rfl⟩;obtain⟨tx,htx⟩:∃ tx,tx=t.tx:=⟨_,rfl⟩;obtain⟨nn,hnn⟩:∃ nn,nn=t.n:=⟨_,rfl⟩;rw[←hkd] at f0 g0;rw[←htx] at f1 g1;rw[←hnn] at f2 g2
  have HKS:=hide hks;have HKQ:=hide hkq;have HROW:=hide hrow;have HROQ:=hide hroq;have HIH:=hide ih;have HTC:=hide htc;have HHT:=hide ht;have HBD:=hide hbd;have HLE:=hide hlen
  have HLQ:=hide hleq;have HP:=hide (lt_of_heap hblk);have HQ:=hide (lt_of_heap hblq);have HF3:=hide f3;have HG3:=hide g3;clear hri hrj hks hkq hrow hroq ih htc ht hbd hblk hblq hnp hnq hkd htx hnn hlen hleq
  go_enter Tryz.func16,Tryz.ntmps16;go_wp2_with fail
  go_region
  go_wp2_with fail
  go_loopw [64] (fun i wr=>∃ k:Nat,k≤t.kids.length∧i=.int .i64 k∧Below w.heap.size w wr) (fun i _=>t.kids.length - (intOf i).toNat)
  case atStart=>exact⟨0,Nat.zero_le _,rfl,(Below.refl _ _).drew⟩
  case round=>
   obtain⟨k,hk,rfl,hb⟩:=hrel;have HB:=hide hb;clear hb f0 f1 f2 f3 g0 g1 g2 g3
   by_cases hlt:k<t.kids.length
   ·obtain⟨g,cap,hv,hcell⟩:=row_open HROW.out (by have:=unhide HLE;omega)
    simp only[Value.slice.injEq] at hv;obtain⟨rfl,_,rfl⟩:=hv;obtain⟨h,cbp,hv,hcelq⟩:=row_open HROQ.out (by have:=unhide HLQ;omega)
    simp only[Value.slice.injEq] at hv;obtain⟨rfl,_,rfl⟩:=hv;obtain⟨hkp,hnk⟩:=NAts.get _ _ HKS.out k hlt;obtain⟨hkq,hnl⟩:=NAts.get _ _ HKQ.out k hlt;have hgl:g<w.heap.size:=(own_lt HROW.out g rfl).1
    have hhl:h<w.heap.size:=(own_lt HROQ.out h rfl).1;have hbb:=unhide HB;have hnk2:NAt I wr.drew t.kids[k] ps[k]:=NAt.later (fun x _ hl=>(hbb.drew).block x hl) _ _ hnk
    have hnl2:NAt J wr.drew t.kids[k] qs[k]:=NAt.later (fun x _ hl=>(hbb.drew).block x hl) _ _ hnl;have hst:SameAt p q g h k t.kids.length uc vc ps[k] qs[k] wr.drew:=
     ⟨by rw[World.cell?_of_block (w:=w) ((hbb.drew).block p HP.out)];exact HF3.out,by rw[World.cell?_of_block (w:=w) ((hbb.drew).block q HQ.out)];exact HG3.out,by rw[World.cell?_of_block (w:=w) ((hbb.drew).block g hgl)];exact hcell k hkp,by rw[World.cell?_of_block (w:=w) ((hbb.drew).block h hhl)];exact hcelq k hkq⟩
    have hle:=counts_le t.kids k hlt;have h1:=unhide HTC;have h2:=unhide HHT;have h3:=unhide HBD;have HC:=hide (HIH.out t.kids[k] (by omega) (by omega) ps[k] qs[k] wr.drew hnk2 hnl2)
    obtain⟨a,ha⟩:∃ a,a=ps[k]:=⟨_,rfl⟩;obtain⟨b,hb⟩:∃ b,b=qs[k]:=⟨_,rfl⟩;rw[←ha,←hb] at hst HC;have HST:=hide hst;have hki:(k:Int)<(t.kids.length:Int):=by omega
    have HX:Hid (∀ w2,Below wr.drew.heap.size wr.drew w2→SameAt p q g h k t.kids.length uc vc a b w2∧Below w.heap.size w w2):=fun w2 h2=>by
     have h3:Below w.heap.size w w2:=hbb.drew.trans (h2.mono hbb.drew.size);refine⟨⟨?_,?_,?_,?_⟩,h3⟩
     ·rw[World.cell?_of_block (w:=w) (h3.block p HP.out)];exact unhide HF3
     ·rw[World.cell?_of_block (w:=w) (h3.block q HQ.out)];exact unhide HG3
     ·rw[World.cell?_of_block (w:=w) (h3.block g hgl)];rw[ha];exact hcell k hkp
     ·rw[World.cell?_of_block (w:=w) (h3.block h hhl)];rw[hb];exact hcelq k hkq
    clear hcell hcelq hnk hnl hnk2 hnl2 hle h1 h2 h3 ha hb hst hbb;go_wp2_with fail;refine wp_region_held (S:=SameAt p q g h k t.kids.length uc vc a b) (by kernel_rfl) ?_;change wpAnyH _ _ _ _ _ _ _ _ (World.drew _)
    refine wh 0 (nPtr p) HST.out ?_;refine wh 1 (nPtr p) HST.out ?_;refine wh 2 (.pointer (some ⟨p,3,none⟩)) HST.out ?_
    refine wg 3 (.slice (some ⟨g,0,none⟩) t.kids.length uc) rfl (Or.inl ⟨by kernel_rfl,fun W hW=>by have hh:=SameAt.x3 hW;go_simp⟩) HST.out ?_
    refine wh 4 (.int .i64 (k:Int)) HST.out ?_;refine wh 5 (.pointer (some ⟨g,k,none⟩)) HST.out ?_;refine wg 6 (nPtr a) rfl (Or.inl ⟨by kernel_rfl,fun W hW=>by have hh:=SameAt.xk hW;go_simp⟩) HST.out ?_
    refine wh 7 (nPtr q) HST.out ?_;refine wh 8 (nPtr q) HST.out ?_;refine wh 9 (.pointer (some ⟨q,3,none⟩)) HST.out ?_
    refine wg 10 (.slice (some ⟨h,0,none⟩) t.kids.length vc) rfl (Or.inl ⟨by kernel_rfl,fun W hW=>by have hh:=SameAt.y3 hW;go_simp⟩) HST.out ?_
    refine wh 11 (.int .i64 (k:Int)) HST.out ?_;refine wh 12 (.pointer (some ⟨h,k,none⟩)) HST.out ?_;refine wg 13 (nPtr b) rfl (Or.inl ⟨by kernel_rfl,fun W hW=>by have hh:=SameAt.yk hW;go_simp⟩) HST.out ?_
    refine wq1 14 fun K hK=>?_;go_simp;refine cm HC.out ?_;rintro e w2 ⟨rfl,hb2⟩;obtain⟨hs2,hb3⟩:=HX.out w2 hb2;have HS2:=hide hs2;have HB3:=hide hb3;clear hs2 hb2 hb3 HC
    refine hK.out _ _ HS2.out (fun _=>?_);clear hK K;refine wh 15 (.bool false) HS2.out ?_;refine wpAnyH_done (by kernel_rfl) ?_ _;go_simp;go_wp2_with fail
    go_roundw
    case rel=>exact⟨k+1,by omega,by go_num,HB3.out⟩
    case measure=>simp[intOf];omega
   ·have hk2:k=t.kids.length:=by omega
    subst hk2;go_wp2_with fail;go_ret;exact⟨rfl,HB.out⟩
theorem codeT_kd (t:Tr):(codeT t).kd=t.kd:=by unfold codeT;split <;> rfl
theorem parseS_kd {ws gs:List ByteArray}{s:ByteArray}{t:Tr}(h:parseS ws gs s=.ok t):t.kd=1∧t.count≤1500:=by
 unfold parseS at h
 split at h
 ·
  cases h
 ·split at h
  ·
   cases h
  ·split at h
   ·
    cases h
   ·rename_i hr
    split at h
    ·
     cases h
    ·
     cases h;obtain⟨ts,_,rfl⟩:=progP_inv hr;exact⟨codeT_kd _,by omega⟩
   ·
    cases h
def ReadPost (r:PaR)(w:World)(e:Ending)(w':World):Prop:=
 match r with
 | .ok t=>∃ p,e=.returned (.tuple #[nPtr p,.bool true])∧NAt (From w.heap.size) w' t p∧Below w.heap.size w w'
 | _=>e=.returned (.tuple #[.pointer none,.bool false])∧Below w.heap.size w w'
def bothS (ws:List ByteArray)(s:ByteArray):Option Tr:=if 3000<s.size then none else match rparseS ws s with | .ok t=>some t|_=>none
def BoPost (r:Option Tr)(w:World)(e:Ending)(w':World):Prop:=
 match r with
 | some t=>∃ p q,e=.returned (.tuple #[nPtr p,nPtr q,.bool true])∧NAt (From w.heap.size) w' t p∧NAt (From w.heap.size) w' t q∧Below w.heap.size w w'
 | none=>e=.returned (.tuple #[.pointer none,.pointer none,.bool false])∧Below w.heap.size w w'
section
variable (s:ByteArray) (w:World)
include s w
theorem both_long (hs:3000<s.size):Calls Tryz.prog 17 #[.string s] w (BoPost none w):=by
 have hgt:decide ((3000:Int)<(s.size:Int))=true:=decide_eq_true (by omega)
 go_enter Tryz.func17,Tryz.ntmps17
 go_wp2_with fail
 exact bodyPost_ret (v:=.tuple #[.pointer none,.pointer none,.bool false]) (by simp[results,Tryz.results17,go_sem]) rfl ⟨rfl,Below.refl _ _⟩
theorem both_bad (r:PaR)(hs:s.size≤3000)(hr:∀ t,r≠.ok t)(h:Calls Tryz.prog 46 #[.string s] w (RpPost r w)):Calls Tryz.prog 17 #[.string s] w (BoPost none w):=by
 have hgt:decide ((3000:Int)<(s.size:Int))=false:=decide_eq_false (by omega)
 have h2:Calls Tryz.prog 46 #[.string s] w (fun e w'=>∃ er pl:Int,er≠0∧e=.returned (.tuple #[.pointer none,.agg #[.int .i64 er,.int .i64 pl]])∧Below w.heap.size w w'):=by
  cases r with
  | ok t=>exact absurd rfl (hr t)
  | bare=>exact h
  | «at» a b=>exact h
 have HC:=hide h2
 clear h h2 hr
 go_enter Tryz.func17,Tryz.ntmps17
 go_wp2_with fail
 refine cm HC.out ?_
 rintro e w1 ⟨er,pl,he,rfl,hb⟩
 have hb0:(er != 0)=true:=bne_iff_ne.2 he
 have HB:=hide hb
 clear hb HC
 go_wp2_with fail
 exact bodyPost_ret (v:=.tuple #[.pointer none,.pointer none,.bool false]) (by simp[results,Tryz.results17,go_sem]) rfl ⟨rfl,HB.out.alloc HB.out.size _⟩
theorem both_ok (t:Tr)(hs:s.size≤3000)(hc:t.count≤1500)(h:Calls Tryz.prog 46 #[.string s] w (RpPost (.ok t) w))(h2:∀ W,Below w.heap.size w W→Calls Tryz.prog 14 #[.string s] W (PaPost (.ok t) W)):Calls Tryz.prog 17 #[.string s] w (BoPost (some t) w):=by
 have hgt:decide ((3000:Int)<(s.size:Int))=false:=decide_eq_false (by omega)
 have HC:=hide h
 have HC2:=hide h2
 clear h h2
 go_enter Tryz.func17,Tryz.ntmps17
 go_wp2_with fail
 refine cm HC.out ?_
 rintro e w1 ⟨q,rfl,hn,hb⟩
 have HB:=hide (hb.alloc hb.size (.cells #[.int .i64 0,.int .i64 (-1)] 86))
 have HN:=hide (NAt.later (fun b _ hl=>Below.heap_alloc w1 (.cells #[.int .i64 0,.int .i64 (-1)] 86) b hl) _ _ hn)
 have HC3:=hide (unhide HC2 _ HB.out)
 clear hb hn HC HC2
 go_wp2_with fail
 refine cm HC3.out ?_
 rintro e w2 ⟨p,rfl,hn2,hb2⟩
 have HB2:=hide (HB.out.trans (hb2.mono HB.out.size))
 have HNq:=hide (NAt.later (fun b _ hl=>hb2.block b hl) _ _ HN.out)
 have HNp:=hide (NAt.mono (J:=From w.heap.size) (fun b h1 _=>Nat.le_trans HB.out.size h1) _ _ hn2)
 have HC4:=hide (same_any _ _ t.count t (Nat.le_refl _) (by omega) p q w2 HNp.out HNq.out)
 clear hb2 hn2 HC3
 go_wp2_with fail
 refine cm HC4.out ?_
 rintro e w3 ⟨rfl,hb3⟩
 have HB3:=hide (HB2.out.trans (hb3.mono HB2.out.size))
 have HNq2:=hide (NAt.later (fun b _ hl=>hb3.block b hl) _ _ HNq.out)
 have HNp2:=hide (NAt.later (fun b _ hl=>hb3.block b hl) _ _ HNp.out)
 clear hb3 HC4
 go_wp2_with fail
 exact bodyPost_ret (v:=.tuple #[nPtr p,nPtr q,.bool true]) (by simp[results,Tryz.results17,go_sem]) rfl ⟨p,q,rfl,HNp2.out,HNq2.out,HB3.out⟩
end
theorem both_any (ws gs:List ByteArray)(s:ByteArray)(w:World)(hL:Lists ws gs w)(hT:Tabs w)(hR:RefLists ws w)(hg:gs=signsS)(hws:∀ x ∈ ws,sgP 2 x=none):Calls Tryz.prog 17 #[.string s] w (BoPost (bothS ws s) w):=by
 have hgs:∀ g ∈ gs,1≤g.size:=by rw[hg];exact rf_signs_pos
 unfold bothS
 by_cases hs:3000<s.size
 ·rw[if_pos hs];exact both_long s w hs
 ·rw[if_neg hs];have h1:=rparse_any ws s w (by omega) hR hws
  cases hr:rparseS ws s with
  | ok t=>
   rw[hr] at h1;have h2:=rparse_same hg (by omega) hgs hws (by rw[hg];exact tPM_not) hr
   have h3:=(parseS_kd h2).2;refine both_ok s w t (by omega) h3 h1 (fun W hb=>?_);rw[←h2];exact parse_any ws gs s W (hL.later hb) hgs (hT.later hb)
  | bare=>rw[hr] at h1;exact both_bad s w _ (by omega) (by nofun) h1
  | «at» a b=>rw[hr] at h1;exact both_bad s w _ (by omega) (by nofun) h1
theorem bothS_count {ws gs:List ByteArray}{s:ByteArray}{t:Tr}(hg:gs=signsS)(hws:∀ x ∈ ws,sgP 2 x=none)(h:bothS ws s=some t):t.count≤1500∧t.kd=1∧parseS ws gs s=.ok t:=by
 have hgs:∀ g ∈ gs,1≤g.size:=by rw[hg];exact rf_signs_pos
 unfold bothS at h
 split at h
 ·
  cases h
 ·
  cases hr:rparseS ws s with
  | ok t2=>
   rw[hr] at h;cases h;have h2:=rparse_same hg (by omega) hgs hws (by rw[hg];exact tPM_not) hr
   exact⟨(parseS_kd h2).2,(parseS_kd h2).1,h2⟩
  | bare=>rw[hr] at h;cases h
  | «at» a b=>rw[hr] at h;cases h
theorem wt_no (s:ByteArray)(w:World)(h:Calls Tryz.prog 17 #[.string s] w (BoPost none w)) :
  Calls Tryz.prog 7 #[.string s] w fun e w'=>e=.returned (.bool true)∧Below w.heap.size w w':=by
 have HC:=hide h
 clear h
 go_enter Tryz.func7,Tryz.ntmps7
 go_wp2_with fail
 refine cm HC.out ?_
 rintro e w1 ⟨rfl,hb1⟩
 have HB1:=hide hb1
 clear HC hb1
 go_wp2_with fail
 go_ret
 exact⟨rfl,HB1.out⟩
theorem wt_ok (s:ByteArray)(t:Tr)(w:World)(hc:t.count≤1500)(hi:t.ill=0)(hk1:t.kd=1){Nm:ByteArray→Prop}(hN:∀ x,Nm x→x≠noText)(hsh:Shp Nm 9 t)(h:Calls Tryz.prog 17 #[.string s] w (BoPost (some t) w)) :
  Calls Tryz.prog 7 #[.string s] w fun e w'=>e=.returned (.bool true)∧Below w.heap.size w w':=by
 have HC:=hide h
 have HI:=hide hi
 have HS:=hide hsh
 have HEQ:=hide (told_eq hN hsh)
 have HEV:Hid (evW t=evalsT t):=by
  show _=_
  rw[evW_eq];unfold evalsT isFunT;rw[hk1];rfl
 have HLL:Hid ((tls (rl t.count) t.kids 1 [⟨0,(letsT t).map Tr.tx,false⟩] (decide (t.tx=tStrict))).length≤20000):=by
  show _≤_
  have h1:=tls_len (f:=rl t.count) (rl_len t.count) t.kids 1 [⟨0,(letsT t).map Tr.tx,false⟩] (decide (t.tx=tStrict));have h2:=count_kids t;omega
 clear h hi hsh
 go_enter Tryz.func7,Tryz.ntmps7
 go_wp2_with fail
 refine cm HC.out ?_
 rintro e w1 ⟨p,q,rfl,hp,hq,hb1⟩
 obtain⟨a,ha1,rfl,ha2,ha3,_⟩:=NAt.ad _ _ hp
 obtain⟨b,hb1',rfl,hb2,hb3,_⟩:=NAt.ad _ _ hq
 have hca:a.cnt=t.count:=by rw[←a.cnt_tr,ha1]
 have hcb:b.cnt=t.count:=by rw[←b.cnt_tr,hb1']
 have HO:=hide (of_any a w1 ha2 ha3 (by rw[ha1];exact HI.out) (by omega))
 rw[hca,ha1,HEQ.out] at HO
 have HR:=hide (fun W (hW:Below w1.heap.size w1 W)=>rwhere_any walk_all b W (AAt.later (fun b _ hl=>hW.block b hl) _ hb2) hb3 (by rw[hb1'];exact HI.out) (by rw[hb1'];exact⟨_,_,HS.out⟩) (by omega))
 rw[hcb,hb1'] at HR
 have HE:=hide (fun W (hW:Below w1.heap.size w1 W)=>evals_any a W (AAt.later (fun b _ hl=>hW.block b hl) _ ha2) ha3 (by rw[ha1];exact HI.out) (by omega))
 rw[ha1] at HE
 have HRE:=hide (fun W (hW:Below w1.heap.size w1 W)=>revals_any b.cnt b (Nat.le_refl _) (by omega) W (AAt.later (fun b _ hl=>hW.block b hl) _ hb2) (by rw[hb1'];exact HI.out))
 rw[hb1',HEV.out] at HRE
 have HB1:=hide hb1
 generalize tls (rl t.count) t.kids 1 [⟨0,(letsT t).map Tr.tx,false⟩] (decide (t.tx=tStrict))=L at HO HR HLL
 generalize evalsT t=ev at HE HRE
 generalize a.p=pa at *
 generalize b.p=pb at *
 clear hp hq ha1 ha2 ha3 hb1' hb2 hb3 hca hcb hb1 HC HI HS HEQ HEV
 go_wp2_with fail
 refine cm HO.out ?_
 rintro e w2 ⟨⟨u,rfl,hu⟩,hb2⟩
 have HC2:=hide (unhide HR w2 hb2)
 have HU:=hide hu
 have HB2:=hide hb2
 obtain⟨ua,ucc,rfl⟩:=srow_form hu
 clear HO HR hu hb2
 go_wp2_with fail
 refine cm HC2.out ?_
 rintro e w3 ⟨⟨v,rfl,hv⟩,hb3⟩
 have HB3:=hide (HB2.out.trans (hb3.mono HB2.out.size))
 have hu3:=owns_stay (I:=fun _=>True) (Below.stay hb3) (fun _ _=>trivial) HU.out
 have HU3:=hide hu3
 have HV3:=hide hv
 obtain⟨va,vc,rfl⟩:=srow_form hv
 have HC3:=hide (unhide HE w3 HB3.out)
 clear HC2 hv hb3 HU HB2 hu3 HE
 go_wp2_with fail
 refine cm HC3.out ?_
 rintro e w4 ⟨rfl,hb4⟩
 have HB4:=hide (HB3.out.trans (hb4.mono HB3.out.size))
 have HC4:=hide (unhide HRE w4 HB4.out)
 have HB34:=hide hb4
 clear HC3 hb4 HRE
 go_wp2_with fail
 refine cm HC4.out ?_
 rintro e w5 ⟨rfl,hw5⟩
 obtain rfl:w4=w5:=hw5.symm
 clear HC4 hw5
 have hevv:(binOp .neq 4 (.bool ev) (.bool ev)).run Tryz.prog w4=.ok (.bool false) w4:=by cases ev <;> kernel_rfl
 have HC5:=hide (of_nil w4)
 go_wp2_with fail
 refine cm HC5.out ?_
 rintro e w5 ⟨rfl,hw5⟩
 obtain rfl:w4=w5:=hw5.symm
 clear HC5 hw5 hevv
 have HC6:=hide (evals_nil w4)
 go_wp2_with fail
 refine cm HC6.out ?_
 rintro e w6 ⟨rfl,hb6⟩
 have HB6:=hide (HB34.out.trans (hb6.mono HB34.out.size))
 have HF6:=hide (HB4.out.trans (hb6.mono HB4.out.size))
 clear HC6 hb6
 go_wp2_with fail
 go_loopw [8] (fun i wr=>∃ k:Nat,k≤L.length∧i=.int .i64 k∧Below w6.heap.size w6 wr) (fun i _=>L.length - (intOf i).toNat)
 case atStart=>exact⟨0,Nat.zero_le _,rfl,Below.refl _ _⟩
 case round=>
  obtain⟨k,hk,rfl,hbw⟩:=hrel;have HBW:=hide hbw;have hb3w:=HB6.out.trans (hbw.mono HB6.out.size);have HLK:=unhide HLL;clear hbw
  by_cases hlt:k<L.length
  ·obtain⟨g,cap,hg,hgl,c0,c1,c2⟩:=us_rowE (owns_stay (I:=fun _=>True) (Below.stay hb3w) (fun _ _=>trivial) HU3.out) k hlt
   obtain⟨g',cap',hg',hgl',d0,d1,d2⟩:=us_rowE (owns_stay (I:=fun _=>True) (Below.stay hb3w) (fun _ _=>trivial) HV3.out) k hlt;simp only[Value.slice.injEq] at hg hg';obtain⟨rfl,hxx,rfl⟩:=hg
   obtain⟨rfl,hxx',rfl⟩:=hg';clear hxx hxx' hb3w;have hki:(k:Int)<(L.length:Int):=by omega
   generalize (L[k]).1=x0 at *
   generalize (L[k]).2.1=x1 at *
   generalize (L[k]).2.2=x2 at *
   go_wp2_with fail;refine wp_region_held (S:=fun X=>X=wr.drew) (by kernel_rfl) ?_;change wpAnyH _ _ _ _ _ _ _ _ (World.drew _);refine wh 0 (.slice (some ⟨g,0,none⟩) L.length ucc) rfl ?_
   refine wh 1 (.int .i64 (k:Int)) rfl ?_;refine wh 2 (.pointer (some ⟨g,k * 3,none⟩)) rfl ?_;refine wh 3 (.pointer (some ⟨g,k * 3,none⟩)) rfl ?_
   refine wh 4 (.int .i64 x0) rfl ?_ (hy:=Or.inl ⟨by kernel_rfl,fun X hX=>by cases hX;go_simp⟩)
   refine wh 5 (.slice (some ⟨g',0,none⟩) L.length vc) rfl ?_;refine wh 6 (.int .i64 (k:Int)) rfl ?_;refine wh 7 (.pointer (some ⟨g',k * 3,none⟩)) rfl ?_;refine wh 8 (.pointer (some ⟨g',k * 3,none⟩)) rfl ?_
   refine wh 9 (.int .i64 x0) rfl ?_ (hy:=Or.inl ⟨by kernel_rfl,fun X hX=>by cases hX;go_simp⟩)
   refine wh 10 (.bool false) rfl ?_;refine wh 11 (.bool false) rfl ?_;refine wh 12 (.slice (some ⟨g,0,none⟩) L.length ucc) rfl ?_;refine wh 13 (.int .i64 (k:Int)) rfl ?_
   refine wh 14 (.pointer (some ⟨g,k * 3,none⟩)) rfl ?_;refine wh 15 (.pointer (some ⟨g,k * 3+1,none⟩)) rfl ?_;refine wh 16 (.int .i64 x1) rfl ?_ (hy:=Or.inl ⟨by kernel_rfl,fun X hX=>by cases hX;go_simp⟩)
   refine wh 17 (.slice (some ⟨g',0,none⟩) L.length vc) rfl ?_;refine wh 18 (.int .i64 (k:Int)) rfl ?_;refine wh 19 (.pointer (some ⟨g',k * 3,none⟩)) rfl ?_
   refine wh 20 (.pointer (some ⟨g',k * 3+1,none⟩)) rfl ?_;refine wh 21 (.int .i64 x1) rfl ?_ (hy:=Or.inl ⟨by kernel_rfl,fun X hX=>by cases hX;go_simp⟩)
   refine wh 22 (.bool false) rfl ?_;refine wh 23 (.bool false) rfl ?_;refine wh 24 (.bool false) rfl ?_;refine wh 25 (.slice (some ⟨g,0,none⟩) L.length ucc) rfl ?_;refine wh 26 (.int .i64 (k:Int)) rfl ?_
   refine wh 27 (.pointer (some ⟨g,k * 3,none⟩)) rfl ?_;refine wh 28 (.pointer (some ⟨g,k * 3+2,none⟩)) rfl ?_;refine wh 29 (.bool x2) rfl ?_ (hy:=Or.inl ⟨by kernel_rfl,fun X hX=>by cases hX;go_simp⟩)
   refine wh 30 (.slice (some ⟨g',0,none⟩) L.length vc) rfl ?_;refine wh 31 (.int .i64 (k:Int)) rfl ?_;refine wh 32 (.pointer (some ⟨g',k * 3,none⟩)) rfl ?_
   refine wh 33 (.pointer (some ⟨g',k * 3+2,none⟩)) rfl ?_;refine wh 34 (.bool x2) rfl ?_ (hy:=Or.inl ⟨by kernel_rfl,fun X hX=>by cases hX;go_simp⟩)
   refine wh 35 (.bool false) rfl ?_ (hy:=Or.inl ⟨by kernel_rfl,fun X hX=>by cases x2 <;> go_simp⟩);refine wh 36 (.bool false) rfl ?_;refine wpAnyH_done (by kernel_rfl) ?_ _;go_simp;go_wp2_with fail
   go_roundw
   case rel=>exact⟨k+1,by omega,by go_num,HBW.out.drew⟩
   case measure=>simp[intOf];omega
  ·have hkk:k=L.length:=by omega
   subst hkk;clear hb3w;go_wp2_with fail;go_ret;exact⟨rfl,HB1.out.trans (((HF6.out.trans (HBW.out.mono HF6.out.size))).mono HB1.out.size)⟩
theorem wt_any (ws gs:List ByteArray)(s:ByteArray)(w:World)(hL:Lists ws gs w)(hT:Tabs w)(hR:RefLists ws w)(hg:gs=signsS)(hws:∀ x ∈ ws,sgP 2 x=none) :
  Calls Tryz.prog 7 #[.string s] w fun e w'=>e=.returned (.bool true)∧Below w.heap.size w w':=by
 have h:=both_any ws gs s w hL hT hR hg hws
 cases hb:bothS ws s with
 | none=>rw[hb] at h;exact wt_no s w h
 | some t=>
  rw[hb] at h;obtain⟨h1,h2,h3⟩:=bothS_count hg hws hb;obtain⟨l,hl,hsh⟩:=parse_sh h3;exact wt_ok s t w h1 (parse_ill h3) h2 (fun x hx=>name_ne (toks_ne _ _ _ l rfl (fun k hk=>by cases hk) hl) hx) hsh h
end Go.Proofs.YtoimgcjbcbhclaaGreatDoor
