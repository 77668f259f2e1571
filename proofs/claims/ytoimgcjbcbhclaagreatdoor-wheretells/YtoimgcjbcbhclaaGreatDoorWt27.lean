/-
  tellAll: what is told of nodes in a row.
-/
import Derived.Test.YtoimgcjbcbhclaaGreatDoorWt26
set_option maxRecDepth 100000
set_option maxHeartbeats 16000000
namespace Go.Proofs.YtoimgcjbcbhclaaGreatDoor
open Go.RowKit
theorem tls_len {f:Tr→Nat→List Sc→Bool→List Us}(hf:∀ t no ch st,(f t no ch st).length≤t.count):∀ (ts:List Tr) (no:Nat) (ch:List Sc) (st:Bool),(tls f ts no ch st).length≤Tr.counts ts
 | [],_,_,_=>Nat.zero_le _
 | t::ts,no,ch,st=>by
  rw[tls,List.length_append,counts_cons];have h1:=hf t no ch st;have h2:=tls_len hf ts (no+t.count) ch st;omega
theorem count_kids (t:Tr):t.count=1+Tr.counts t.kids:=by cases t with|mk kd tx nn ks=>exact count_mk _ _ _ _
theorem tl_len:∀ (m:Nat) (t:Tr) (no:Nat) (ch:List Sc) (st:Bool),(tl m t no ch st).length≤t.count
 | 0,_,_,_,_=>Nat.zero_le _
 | m+1,t,no,ch,st=>by
  have ih:=tls_len (f:=tl m) (tl_len m);have hc:=count_kids t;rw[tl]
  split
  ·have:=ih t.kids (no+1) ch (st||strictT t);rw[List.length_cons];omega
  split
  ·have:=ih t.kids (no+1) (⟨no,(letsT t).map Tr.tx,false⟩::ch) (st||strictT t);omega
  split
  ·have:=ih t.kids (no+1) (⟨no,namesT t false,false⟩::ch) (st||strictT t);omega
  split
  ·have:=ih t.kids (no+1) (⟨no,[t.tx],false⟩::ch) (st||strictT t);omega
  split
  ·split
   ·rename_i k0 k1 ks hk
    rw[hk,counts_cons,counts_cons] at hc;have h1:=tl_len m k0 (no+1) ch (st||strictT t);have h2:=tl_len m k1 (no+1+k0.count) (⟨0,[],true⟩::ch) (st||strictT t);rw[List.length_append];omega
   ·exact Nat.zero_le _
  split
  ·split
   ·rename_i pr bl ks hk
    rw[hk,counts_cons,counts_cons] at hc;have h1:=ih bl.kids (no+1+pr.count+1) (fnSc t pr bl no ch (st||strictT t)) (st||strictT t||strictT bl);have h2:=count_kids bl;omega
   ·exact Nat.zero_le _
  split
  ·exact Nat.zero_le _
  ·have:=ih t.kids (no+1) ch (st||strictT t);omega
theorem Chn.ptr {I:Nat→Prop}{w:World}{l:List Sc}{v:Value}(h:Chn I w v l):∃ oa,v=.pointer oa:=by
 rcases h.form with h|⟨b,h,_⟩ <;> exact⟨_,h⟩
theorem cnts_take (l:List Ad)(k:Nat)(hk:k<l.length):Ad.cnts (l.take k)+(l[k]).cnt≤Ad.cnts l:=by
 have h1:Ad.cnts l=Ad.cnts (l.take k)+Ad.cnts (l.drop k):=by rw[←cnts_app,List.take_append_drop]
 rw[List.drop_eq_getElem_cons hk,Ad.cnts] at h1
 omega
theorem cnts_map (l:List Ad):Tr.counts (l.map Ad.tr)=Ad.cnts l:=by rw[←trs_map,Ad.cnts_tr]
theorem tellAll_any {m:Nat}(hT:TellC m)(es:List Ad)(hm:∀ k ∈ es,k.cnt≤m)(I:Nat→Prop)(tb mb:Nat)(A pre post:List Nat)(L:List Us)(v:Value)(ch:List Sc)(st:Bool)(kv:Value)(w:World)
  (hA:A=pre++(Ad.adss es++post)) (hW:TW I tb mb A L w) (hn:∀ k ∈ es,AAt I w k) (hi:∀ k ∈ es,k.tr.ill=0) (hC:Chn I w v ch) (hr:w.ownsRow 0 22 1 kv (es.map Ad.p).length ((es.map Ad.p).map nPtr)) (hrI:∀ g,kv.ownBlock=some g→I g) (hl:L.length+Ad.cnts es≤20000) :
  Calls Tryz.prog 127 #[sPtr tb,kv,plV2 v st] w fun e w'=>e=.returned (.tuple #[])∧TW I tb mb A (L++tls (tl m) (es.map Ad.tr) pre.length ch st) w'∧Fm I w w':=by
 obtain⟨oa,rfl⟩:=hC.ptr
 obtain⟨ka,kc,hkv⟩:=srow_form hr
 rw[List.length_map] at hkv
 subst hkv
 obtain⟨w1,hw1⟩:∃ w1,w1=w.alloc (.cells #[.pointer oa,.bool st] 112):=⟨_,rfl⟩
 have hb1:Below w.heap.size w w1:=by rw[hw1];exact(Below.refl _ _).alloc (Nat.le_refl _) _
 have hs1:w1.heap.size=w.heap.size+1:=by rw[hw1];simp
 have hpb:w1.heap[w.heap.size]? = some (.cells #[.pointer oa,.bool st] 112 (0,0)):=by rw[hw1];exact heap_new _ _
 obtain⟨J,hJ⟩:∃ J:Nat→Prop,J=fun b=>I b∨(w.heap.size≤b∧b<w1.heap.size):=⟨_,rfl⟩
 have hIJ:∀ b,I b→J b:=fun b hb=>by rw[hJ];exact Or.inl hb
 have hW1:TW J tb mb A L w1:=by rw[hJ];exact hW.more hb1
 have hJp:J w.heap.size:=by rw[hJ];exact Or.inr ⟨Nat.le_refl _,by omega⟩
 have hn1:∀ k ∈ es,AAt J w1 k:=fun k hk=>AAt.later (fun b _ hl=>hb1.block b hl) _ (AAt.mono (fun b hb _=>hIJ b hb) _ (hn k hk))
 have hC1:Chn J w1 (.pointer oa) ch:=Chn.later (fun b _ hl=>hb1.block b hl) _ _ (Chn.mono (fun b hb _=>hIJ b hb) _ _ hC)
 have hlen:es.length≤20000:=by have:=cnts_len es;omega
 have HT:=hide hT
 have HM:=hide hm
 have HA:=hide hA
 have HW:=hide hW
 have HW1:=hide hW1
 have HN1:=hide hn1
 have HI:=hide hi
 have HC1:=hide hC1
 have HR:=hide hr
 have HRI:=hide (fun g hg=>hIJ g (hrI g hg))
 have HL:=hide hl
 have HB1:=hide hb1
 have HPB:=hide hpb
 have HJP:=hide hJp
 have HIJ:=hide hIJ
 have HS1:=hide hs1
 have HW1E:=hide hw1
 clear hT hm hA hW hW1 hn hn1 hi hC hC1 hr hrI hl hb1 hpb hJp hIJ hs1 hJ hw1
 go_enter Tryz.func127,Tryz.ntmps127
 go_wp2_with fail
 rw[←HW1E.out]
 go_loopw [10] (fun i wr=>∃ k:Nat,k≤es.length∧i=.int .i64 k∧TW J tb mb A (L++tls (tl m) ((es.take k).map Ad.tr) pre.length ch st) wr∧Fm J w1 wr) (fun i _=>es.length - (intOf i).toNat)
 case atStart=>exact⟨0,Nat.zero_le _,rfl,by simpa[tls] using HW1.out,Fm.refl _ _⟩
 case round=>
  obtain⟨k,hk,rfl,hg,hap⟩:=hrel;have HGK:=hide hg;have HAK:=hide hap;clear hg hap
  by_cases hlt:k<es.length
  ·obtain⟨g,cap,hv,hcell⟩:=row_open HR.out (by rw[List.length_map];omega)
   simp only[Value.slice.injEq] at hv;obtain⟨rfl,hxx,rfl⟩:=hv;clear hxx;have hlm:(es.map Ad.p).length=es.length:=List.length_map _;have hkp:k<(es.map Ad.p).length:=by omega
   have hgb:=unhide HRI g rfl;have hgl:=(own_lt HR.out g rfl).1;have hgl1:g<w1.heap.size:=Nat.lt_of_lt_of_le hgl HB1.out.size;obtain⟨q,hq⟩:∃ q,q=(es[k]).p:=⟨_,rfl⟩
   have hck:wr.cell? ⟨g,k,none⟩=some (nPtr q):=by
    rw[HAK.out.cell hgb hgl1,HB1.out.cell (p:=⟨g,k,none⟩) hgl,hcell k hkp,List.getElem_map,hq]
   have hpl:=lt_of_heap HPB.out;have p0:wr.cell? ⟨w.heap.size,0,none⟩=some (.pointer oa):=by rw[HAK.out.cell HJP.out hpl,cell_of HPB.out];rfl
   have p1:wr.cell? ⟨w.heap.size,1,none⟩=some (.bool st):=by rw[HAK.out.cell HJP.out hpl,cell_of HPB.out];rfl
   have hpl2:w.heap.size<wr.heap.size:=Nat.lt_of_lt_of_le hpl HAK.out.size;have hgl2:g<wr.heap.size:=Nat.lt_of_lt_of_le hgl1 HAK.out.size;have hmem:=List.getElem_mem hlt;have hct:=cnts_take es k hlt
   have htl:=tls_len (f:=tl m) (tl_len m) ((es.take k).map Ad.tr) pre.length ch st;rw[cnts_map] at htl;have hHL:=unhide HL
   have hA2:A=(pre++Ad.adss (es.take k))++((es[k]).ads++(Ad.adss (es.drop (k+1))++post)):=by
    rw[HA.out];exact zbff
   have hC:=unhide HT (es[k]) (unhide HM _ hmem) J tb mb A _ _ _ (.pointer oa) ch st wr hA2 HGK.out (AAt.later HAK.out.stay _ (unhide HN1 _ hmem)) (unhide HI _ hmem) (Chn.later HAK.out.stay _ _ HC1.out) (by rw[List.length_append];omega)
   rw[←hq] at hC;have HC:=hide hC;have hpn:(pre++Ad.adss (es.take k)).length=pre.length+Tr.counts ((es.map Ad.tr).take k):=by rw[List.length_append,Ad.adss_len,←List.map_take,cnts_map]
   have htk:=tls_take (tl m) (es.map Ad.tr) k (by rw[List.length_map];exact hlt) pre.length ch st
   rw[List.getElem_map,←hpn,←List.map_take,←List.map_take] at htk;have HTK:=hide htk;have hki:(k:Int)<(es.length:Int):=by omega
   clear hcell hq hpl hmem hct htl hHL hA2 hC hpn htk hlm hgl1 hgl hgb hkp;go_wp2_with fail;refine cm HC.out ?_;rintro e w2 ⟨rfl,hw2,hf2⟩;have HC2:=hide hw2;have HA2:=hide (HAK.out.trans hf2)
   clear hw2 hf2 HC hck p0 p1;go_wp2_with fail
   go_roundw
   case rel=>exact⟨k+1,by omega,by go_num,by rw[HTK.out,←List.append_assoc];exact HC2.out,HA2.out⟩
   case measure=>simp[intOf];omega
  ·have hk2:k=es.length:=by omega
   subst hk2;go_wp2_with fail
   go_end0
   have h1:=unhide HGK;rw[List.take_length] at h1;exact⟨rfl,h1.less HW.out HIJ.out,(Fm.of HB1.out).trans (HAK.out.less HIJ.out)⟩
end Go.Proofs.YtoimgcjbcbhclaaGreatDoor
namespace Go.Proofs.YtoimgcjbcbhclaaGreatDoor
inductive Shp (Nm:ByteArray→Prop):Nat→Tr→Prop
 | name {s} (h:Nm s):Shp Nm 0 (.mk 23 s 0 [])
 | str (s:ByteArray):Shp Nm 0 (.mk 18 s 0 [])
 | num (n:Int):Shp Nm 0 (.mk 17 noText n [])
 | lit {kd} (hk:kd=19∨kd=20∨kd=21∨kd=22):Shp Nm 0 (.mk kd noText 0 [])
 | memb {s t} (h:Nm s) (ht:Shp Nm 0 t):Shp Nm 0 (.mk 36 s 0 [t])
 | call {t ts} (ht:Shp Nm 0 t) (hs:∀ u ∈ ts,Shp Nm 0 u) (hl:ts.length≤8):Shp Nm 0 (.mk 35 noText 0 (t::ts))
 | one {kd t} (hk:kd=32∨kd=33∨kd=34) (ht:Shp Nm 0 t):Shp Nm 0 (.mk kd noText 0 [t])
 | two {kd a b} (hk:25≤kd∧kd≤31) (ha:Shp Nm 0 a) (hb:Shp Nm 0 b):Shp Nm 0 (.mk kd noText 0 [a,b])
 | asg {a b} (hk:a.kd=23∨a.kd=36) (ha:Shp Nm 0 a) (hb:Shp Nm 0 b):Shp Nm 0 (.mk 24 noText 0 [a,b])
 | obj {ps} (hs:∀ u ∈ ps,Shp Nm 2 u) (hl:ps.length≤8):Shp Nm 0 (.mk 38 noText 0 ps)
 | lam {s p b} (h:s=noText∨Nm s) (hp:Shp Nm 5 p) (hb:Shp Nm 4 b):Shp Nm 0 (.mk 37 s 0 [p,b])
 | prop {s v} (h:Nm s) (hv:Shp Nm 0 v):Shp Nm 2 (.mk 39 s 0 [v])
 | par {s} (h:Nm s):Shp Nm 6 (.mk 23 s 0 [])
 | pars {ps} (hs:∀ u ∈ ps,Shp Nm 6 u) (hl:ps.length≤8):Shp Nm 5 (.mk 40 noText 0 ps)
 | blk {ts} (hs:∀ u ∈ ts,Shp Nm 1 u):Shp Nm 3 (.mk 6 noText 0 ts)
 | body {tx ts} (ht:tx=noText∨tx=tStrict) (hs:∀ u ∈ ts,Shp Nm 1 u):Shp Nm 4 (.mk 6 tx 0 ts)
 | decl {kd s v} (hk:kd=2∨kd=3∨kd=4) (h:Nm s) (hv:∀ u ∈ v,Shp Nm 0 u) (hl:v.length≤1) (hc:kd=4→v.length=1):Shp Nm 1 (.mk kd s 0 v)
 | func {s p b} (h:Nm s) (hp:Shp Nm 5 p) (hb:Shp Nm 4 b):Shp Nm 1 (.mk 5 s 0 [p,b])
 | sblk {t} (h:Shp Nm 3 t):Shp Nm 1 t
 | sif {v s} (hv:Shp Nm 0 v) (hs:Shp Nm 1 s):Shp Nm 1 (.mk 7 noText 0 [v,s])
 | sife {v s e} (hv:Shp Nm 0 v) (hs:Shp Nm 1 s) (he:Shp Nm 1 e):Shp Nm 1 (.mk 7 noText 0 [v,s,e])
 | loop {kd v s} (hk:kd=8∨kd=9) (hv:Shp Nm 0 v) (hs:Shp Nm 1 s):Shp Nm 1 (.mk kd noText 0 [v,s])
 | give {kd v} (hk:kd=10∨kd=11) (hv:∀ u ∈ v,Shp Nm 0 u) (hl:v.length≤1) (hc:kd=11→v.length=1):Shp Nm 1 (.mk kd noText 0 v)
 | atm {b c f} (hb:Shp Nm 3 b) (hc:∀ u ∈ c,Shp Nm 7 u) (hf:∀ u ∈ f,Shp Nm 8 u) (hl:c.length≤1∧f.length≤1∧0<c.length+f.length):Shp Nm 1 (.mk 12 noText 0 (b::(c++f)))
 | cat {s b} (h:Nm s) (hb:Shp Nm 3 b):Shp Nm 7 (.mk 13 s 0 [b])
 | fin {b} (hb:Shp Nm 3 b):Shp Nm 8 (.mk 14 noText 0 [b])
 | empty:Shp Nm 1 (.mk 16 noText 0 [])
 | expr {v} (hv:Shp Nm 0 v):Shp Nm 1 (.mk 15 noText 0 [v])
 | prog {tx ts} (ht:tx=noText∨tx=tStrict) (hs:∀ u ∈ ts,Shp Nm 1 u):Shp Nm 9 (.mk 1 tx 0 ts)
theorem codeT_mk (kd:Int)(n:Int)(ts:List Tr):∃ tx,(tx=noText∨tx=tStrict)∧codeT (.mk kd noText n ts)=.mk kd tx n ts:=by
 unfold codeT
 split
 ·rename_i h;cases h;split
  ·exact⟨_,Or.inr rfl,rfl⟩
  ·exact⟨_,Or.inl rfl,rfl⟩
 ·exact⟨_,Or.inl rfl,rfl⟩
theorem Shp.toBody {Nm:ByteArray→Prop}{t:Tr}(h:Shp Nm 3 t):Shp Nm 4 (codeT t):=by
 cases h with
 | blk hs=>obtain⟨tx,h1,h2⟩:=codeT_mk 6 0 _;rw[h2];exact .body h1 hs
theorem sgP_mem {k:Int}{x:ByteArray}{s:Sg}(h:sgP k x=some s):s ∈ sgs∧s.parts=k:=by
 unfold sgP at h
 have h1:=Option.filter_eq_some_iff.1 h
 exact⟨List.mem_of_find?_eq_some h1.1,by simpa using h1.2⟩
def keyOk (q:Nat)(k:Int):Bool:=match q with
 | 0=>k==2||k==3||k==4
 | 4=>k==7
 | 5=>k==8||k==9
 | 6=>k==10||k==11
 | _=>true
section
variable {l:List Tk}
def NmL (l:List Tk)(s:ByteArray):Prop:=∃ i,(tkA l i).kd=1∧(tkA l i).tx=s
theorem name_nm {i j:Nat}{s:ByteArray}(h:nameP l i=.ok s j):NmL l s:=by
 unfold nameP at h
 split at h
 ·rename_i h1;cases h;exact⟨i,h1,rfl⟩
 ·
  cases h
theorem key_hd {q i:Nat}(h:look2 stKeys (fx l i)=some q):keyOk q (hdKind (tkA l i).tx)=true:=by
 unfold look2 at h
 cases hf:stKeys.find? (fun e=>decide (fx l i=e.1)) with
 | none=>rw[hf] at h;cases h
 | some e=>
  rw[hf] at h;have h1:=List.mem_of_find?_eq_some hf;have h2:fx l i=e.1:=by simpa using List.find?_some hf
  have h3:∀ e ∈ stKeys,keyOk e.2 (hdKind e.1)=true∧e.1≠noText:=by decide +kernel
  have h4:(tkA l i).tx=e.1:=by
   unfold fx at h2
   split at h2
   ·exact h2
   ·exact absurd h2.symm (h3 e h1).2
  cases h;rw[h4];exact(h3 e h1).1
abbrev Kh (l:List Tk)(c:Nat)(r:PR Tr):Prop:=∀ t j,r=.ok t j→Shp (NmL l) c t
theorem deep_kh {c:Nat}{f:Nat→Nat→PR Tr}{d i:Nat}(h:Kh l c (f (d+1) i)):Kh l c (deepP l f d i):=by
 unfold deepP
 split
 ·intro t j e;cases e
 ·exact h
theorem mem_app {P:Tr→Prop}{acc:List Tr}{u:Tr}(ha:∀ x ∈ acc,P x)(hu:P u):∀ x ∈ acc++[u],P x:=by
 intro x hx
 rcases List.mem_append.1 hx with h|h
 ·exact ha x h
 ·rw[List.mem_singleton.1 h];exact hu
theorem listLoop_kh {c:Nat}{shut:ByteArray}{begins:Nat→Bool}{part:Nat→PR Tr}(hb:∀ i t j,part i=.ok t j→begins i=true)(hp:∀ i,Kh l c (part i)):∀ k acc i t j,(∀ x ∈ acc,Shp (NmL l) c x)→acc.length≤8→listLoop l shut begins part k acc i=.ok t j→(∀ x ∈ t,Shp (NmL l) c x)∧t.length≤8:=by
 intro k
 induction k with
 | zero=>intro acc i t j _ _ h;cases h
 | succ k ih=>
  intro acc i t j ha hl h;unfold listLoop at h
  split at h
  ·
   cases h
  ·rename_i hn
   obtain⟨u,i1,h1,h⟩:=binds h;have hu:=mem_app ha (hp i u i1 h1);have hl2:(acc++[u]).length≤8:=by
    have:acc.length≠8:=fun e=>hn ⟨e,hb _ _ _ h1⟩;simp;omega
   split at h
   ·
    cases h;exact⟨hu,hl2⟩
   ·obtain⟨_,i2,h2,h⟩:=binds h;exact ih _ _ _ _ hu hl2 h
theorem list_kh {c:Nat}{opn shut:ByteArray}{begins:Nat→Bool}{part:Nat→PR Tr}(hb:∀ i t j,part i=.ok t j→begins i=true)(hp:∀ i,Kh l c (part i)){k i j:Nat}{t:List Tr}(h:listP l opn shut begins part k i=.ok t j):(∀ x ∈ t,Shp (NmL l) c x)∧t.length≤8:=by
 unfold listP at h
 obtain⟨_,i1,h1,h⟩:=binds h
 split at h
 ·
  cases h;exact⟨fun _ h=>(by cases h),by simp⟩
 ·exact listLoop_kh hb hp _ _ _ _ _ (fun _ h=>by cases h) (by simp) h
theorem isName_name {i j:Nat}{s:ByteArray}(h:nameP l i=.ok s j):isName l i=true:=by
 unfold nameP at h
 split at h
 ·rename_i h1;unfold isName;rw[h1];rfl
 ·
  cases h
structure FKh (l:List Tk)(F:Fns):Prop where
 st:∀ d i,Kh l 1 (F.st d i)
 vl:∀ d i,Kh l 0 (F.vl d i)
 pr:∀ b d i,Kh l 0 (F.pr b d i)
 sg:∀ d i,Kh l 0 (F.sg d i)
 bg:∀ d i t j,F.vl d i=.ok t j→isVal l i=true
 bp:∀ b d i t j,F.pr b d i=.ok t j→isVal l i=true
 bs:∀ d i t j,F.sg d i=.ok t j→isVal l i=true
variable {F:Fns} (hF:FKh l F)
include hF
theorem blockLoop_kh {d:Nat}:∀ k acc i t j,(∀ x ∈ acc,Shp (NmL l) 1 x)→blockLoop l F d k acc i=.ok t j→∀ x ∈ t,Shp (NmL l) 1 x:=by
 intro k
 induction k with
 | zero=>intro acc i t j _ h;cases h
 | succ k ih=>
  intro acc i t j ha h;unfold blockLoop at h;exact zbgt
theorem block_kh {d i:Nat}:Kh l 3 (blockP l F d i):=by
 intro t j h
 unfold blockP at h
 obtain⟨_,i1,h1,h⟩:=binds h
 obtain⟨ts,i2,h2,h⟩:=binds h
 cases h
 exact .blk (blockLoop_kh hF _ _ _ _ _ (fun _ h=>by cases h) h2)
omit hF in
theorem params_kh {i:Nat}:Kh l 5 (paramsP l F i):=by
 intro t j h
 unfold paramsP at h
 obtain⟨ts,i1,h1,h⟩:=binds h
 cases h
 have:=list_kh (c:=6) (fun i t j h=>by unfold paramP at h;obtain⟨_,_,h1,_⟩:=binds h;exact isName_name h1) (fun i t j h=>by unfold paramP at h;obtain⟨_,_,h1,h⟩:=binds h;cases h;exact .par (name_nm h1)) h1
 exact .pars this.1 this.2
theorem inPar_kh (d i:Nat):Kh l 0 (inParP l F d i):=by
 intro t j h
 unfold inParP at h
 obtain⟨_,i1,h1,h⟩:=binds h
 obtain⟨u,i2,h2,h⟩:=binds h
 obtain⟨_,i3,h3,h⟩:=binds h
 cases h
 exact deep_kh (hF.vl _ _) _ _ h2
theorem object_kh (d i:Nat):Kh l 0 (objectP l F d i):=by
 intro t j h
 unfold objectP at h
 obtain⟨ts,i1,h1,h⟩:=binds h
 cases h
 have:=list_kh (c:=2) (fun i t j h=>by unfold propP at h;obtain⟨_,_,h1,_⟩:=binds h;exact isName_name h1) (fun i t j h=>by
  unfold propP at h;obtain⟨_,_,h1,h⟩:=binds h;obtain⟨_,_,_,h⟩:=binds h;obtain⟨_,_,h3,h⟩:=binds h;cases h;exact .prop (name_nm h1) (deep_kh (hF.vl _ _) _ _ h3)) h1
 exact .obj this.1 this.2
theorem tail_kh {kd:Int}{s:ByteArray}{d i j:Nat}{t:Tr}(h:funcTail l F kd s d i=.ok t j):∃ p b,t=.mk kd s 0 [p,b]∧Shp (NmL l) 5 p∧Shp (NmL l) 4 b:=by
 unfold funcTail at h
 obtain⟨ps,i1,h1,h⟩:=binds h
 obtain⟨b,i2,h2,h⟩:=binds h
 cases h
 exact⟨_,_,rfl,params_kh _ _ h1,(block_kh hF _ _ h2).toBody⟩
theorem lambda_kh (d i:Nat):Kh l 0 (lambdaP l F d i):=by
 intro t j h
 unfold lambdaP at h
 obtain⟨_,i1,h1,h⟩:=binds h
 split at h
 ·obtain⟨s,i2,h2,h⟩:=binds h;obtain⟨p,b,rfl,hp,hb⟩:=tail_kh hF h;exact .lam (Or.inr (name_nm h2)) hp hb
 ·obtain⟨p,b,rfl,hp,hb⟩:=tail_kh hF h;exact .lam (Or.inl rfl) hp hb
theorem alone_kh (d i:Nat):Kh l 0 (aloneP l F d i):=by
 unfold aloneP
 split
 ·exact inPar_kh hF d i
 ·exact object_kh hF d i
 ·exact lambda_kh hF d i
 ·split
  ·rename_i hsg;intro t j h;cases h
   have h2:∀ s ∈ sgs,s.parts=0→s.kd=19∨s.kd=20∨s.kd=21∨s.kd=22:=by decide +kernel
   exact .lit (h2 _ (sgP_mem hsg).1 (sgP_mem hsg).2)
  ·split
   ·rename_i h1;intro t j h;cases h;exact .name ⟨i,h1,rfl⟩
   ·split
    ·intro t j h;cases h;exact .str _
    ·split
     ·intro t j h;cases h;exact .num _
     ·intro t j h;cases h
omit hF in
theorem alone_bg {d i j:Nat}{t:Tr}(h:aloneP l F d i=.ok t j):isVal l i=true:=by
 unfold isVal
 unfold aloneP at h
 cases hk:look2 vlKeys (fx l i) with
 | some q=>simp
 | none=>
  rw[hk] at h;simp only at h
  cases hs:sgP 0 (fx l i) with
  | some s=>
   have h1:=sgP_mem hs;have h3:((sgOf (fx l i)).filter (fun e=>decide (e.parts<2))).isSome=true:=by
    unfold sgP at hs;have h2:=Option.filter_eq_some_iff.1 hs;rw[h2.1];simp[Option.filter,h1.2]
   rw[h3];simp
  | none=>
   rw[hs] at h;simp only at h
   split at h
   ·rename_i h1;simp[h1]
   ·split at h
    ·rename_i h1;simp[h1]
    ·split at h
     ·rename_i h1;simp[h1]
     ·
      cases h
theorem askedLoop_kh {d:Nat}:∀ k u i t j,Shp (NmL l) 0 u→askedLoop l F d k u i=.ok t j→Shp (NmL l) 0 t:=by
 intro k
 induction k with
 | zero=>intro u i t j _ h;cases h
 | succ k ih=>
  intro u i t j hu h;unfold askedLoop at h
  split at h
  ·obtain⟨s,i1,h1,h⟩:=binds h;exact ih _ _ _ _ (.memb (name_nm h1) hu) h
  ·split at h
   ·obtain⟨ts,i1,h1,h⟩:=binds h;have:=list_kh (c:=0) (fun i t j h=>by
     unfold deepP at h
     split at h
     ·
      cases h
     ·exact hF.bg _ _ _ _ h) (fun i=>deep_kh (hF.vl _ _)) h1
    exact ih _ _ _ _ (.call hu this.1 this.2) h
   ·
    cases h;exact hu
theorem single_kh (d i:Nat):Kh l 0 (singleP l F d i):=by
 unfold singleP
 split
 ·rename_i hsg
  intro t j h;obtain⟨u,i1,h1,h⟩:=binds h;cases h;have h2:∀ s ∈ sgs,s.parts=1→s.kd=32∨s.kd=33∨s.kd=34:=by decide +kernel
  exact .one (h2 _ (sgP_mem hsg).1 (sgP_mem hsg).2) (deep_kh (hF.sg _ _) u _ h1)
 ·intro t j h;unfold askedP at h;obtain⟨u,i1,h1,h⟩:=binds h;exact askedLoop_kh hF _ _ _ _ _ (alone_kh hF d i u i1 h1) h
omit hF in
theorem single_bg (d i:Nat)(t:Tr)(j:Nat)(h:singleP l F d i=.ok t j):isVal l i=true:=by
 unfold singleP at h
 cases hs:sgP 1 (fx l i) with
 | some s=>
  have h1:=sgP_mem hs;have h3:((sgOf (fx l i)).filter (fun e=>decide (e.parts<2))).isSome=true:=by
   unfold sgP at hs;have h2:=Option.filter_eq_some_iff.1 hs;rw[h2.1];simp[Option.filter,h1.2]
  unfold isVal;rw[h3];simp
 | none=>
  rw[hs] at h;simp only at h;unfold askedP at h;obtain⟨u,i1,h1,_⟩:=binds h;exact alone_bg h1
theorem pairLoop_kh {b:Int}{d:Nat}:∀ k u i t j,Shp (NmL l) 0 u→pairLoop l F b d k u i=.ok t j→Shp (NmL l) 0 t:=by
 intro k
 induction k with
 | zero=>intro u i t j _ h;cases h
 | succ k ih=>
  intro u i t j hu h;unfold pairLoop at h
  split at h
  ·
   cases h;exact hu
  ·rename_i hsg
   split at h
   ·
    cases h;exact hu
   ·obtain⟨v,i1,h1,h⟩:=binds h;have h2:∀ s ∈ sgs,s.parts=2→25≤s.kd∧s.kd≤31:=by decide +kernel
    exact ih _ _ _ _ (.two (h2 _ (sgP_mem hsg).1 (sgP_mem hsg).2) hu (hF.pr _ _ _ v i1 h1)) h
theorem pair_kh (b:Int)(d i:Nat):Kh l 0 (pairP l F b d i):=by
 intro t j h
 unfold pairP at h
 obtain⟨u,i1,h1,h⟩:=binds h
 exact pairLoop_kh hF _ _ _ _ _ (hF.sg _ _ u i1 h1) h
theorem value_kh (d i:Nat):Kh l 0 (valueP l F d i):=by
 intro t j h
 unfold valueP at h
 obtain⟨u,i1,h1,h⟩:=binds h
 have e1:=hF.pr _ _ _ u i1 h1
 split at h
 ·split at h
  ·rename_i hk
   obtain⟨v,i2,h2,h⟩:=binds h;cases h;exact .asg hk e1 (deep_kh (hF.vl _ _) v _ h2)
  ·
   cases h
 ·
  cases h;exact e1
theorem part_kh (d q i:Nat)(hq:keyOk q (hdKind (tkA l i).tx)=true):Kh l 1 (partP l F d q i):=by
 intro t j h
 unfold partP at h
 split at h
 ·have hk:hdKind (tkA l i).tx=2∨hdKind (tkA l i).tx=3∨hdKind (tkA l i).tx=4:=by simpa[keyOk,or_assoc] using hq
  unfold declP at h;obtain⟨s,i1,h1,h⟩:=binds h
  split at h
  ·
   cases h
  ·rename_i hn
   split at h
   ·obtain⟨v,i2,h2,h⟩:=binds h;obtain⟨_,i3,h3,h⟩:=binds h;cases h;have e2:=deep_kh (hF.vl _ _) v _ h2
    exact .decl hk (name_nm h1) (fun u hu=>by rw[List.mem_singleton.1 hu];exact e2) (by simp) (by simp)
   ·rename_i hx
    obtain⟨_,i3,h3,h⟩:=binds h;cases h;exact .decl hk (name_nm h1) (fun u hu=>by cases hu) (by simp) (fun e=>absurd ⟨e,hx⟩ hn)
 ·unfold funcP at h;obtain⟨_,i1,h1,h⟩:=binds h;obtain⟨s,i2,h2,h⟩:=binds h;obtain⟨p,b,rfl,hp,hb⟩:=tail_kh hF h;exact .func (name_nm h2) hp hb
 ·exact .sblk (block_kh hF _ _ h)
 ·obtain⟨_,i3,h3,h⟩:=binds h;cases h;exact .empty
 ·have hk:hdKind (tkA l i).tx=7:=by simpa[keyOk] using hq
  unfold choiceP at h;rw[hk] at h;obtain⟨v,i1,h1,h⟩:=binds h;obtain⟨s,i2,h2,h⟩:=binds h;have e1:=inPar_kh hF d _ v i1 h1;have e2:=deep_kh (hF.st _ _) s _ h2
  split at h
  ·obtain⟨s2,i3,h3,h⟩:=binds h;cases h;exact .sife e1 e2 (deep_kh (hF.st _ _) s2 _ h3)
  ·
   cases h;exact .sif e1 e2
 ·have hk:hdKind (tkA l i).tx=8∨hdKind (tkA l i).tx=9:=by simpa[keyOk] using hq
  unfold behindP at h;obtain⟨v,i1,h1,h⟩:=binds h;obtain⟨s,i2,h2,h⟩:=binds h;cases h;exact .loop hk (inPar_kh hF d _ v i1 h1) (deep_kh (hF.st _ _) s _ h2)
 ·have hk:hdKind (tkA l i).tx=10∨hdKind (tkA l i).tx=11:=by simpa[keyOk] using hq
  unfold givingP at h
  split at h
  ·obtain⟨v,i1,h1,h⟩:=binds h;obtain⟨_,i2,h2,h⟩:=binds h;cases h;have e1:=deep_kh (hF.vl _ _) v _ h1;exact .give hk (fun u hu=>by rw[List.mem_singleton.1 hu];exact e1) (by simp) (by simp)
  ·rename_i hn
   obtain⟨_,i2,h2,h⟩:=binds h;cases h;exact .give hk (fun u hu=>by cases hu) (by simp) (fun e=>absurd (Or.inl e) hn)
 ·unfold attemptP at h;obtain⟨_,i0,h0,h⟩:=binds h;obtain⟨b,i1,h1,h⟩:=binds h;obtain⟨c,i2,h2,h⟩:=binds h;obtain⟨f,i3,h3,h⟩:=binds h;have e2:(∀ u ∈ c,Shp (NmL l) 7 u)∧c.length≤1:=by
   unfold catchP at h2
   split at h2
   ·obtain⟨_,k1,g1,h2⟩:=binds h2;obtain⟨_,k2,g2,h2⟩:=binds h2;obtain⟨_,k3,g3,h2⟩:=binds h2;obtain⟨bb,k4,g4,h2⟩:=binds h2;cases h2
    exact⟨fun u hu=>by rw[List.mem_singleton.1 hu];exact .cat (name_nm g2) (block_kh hF _ _ g4),by simp⟩
   ·
    cases h2;exact⟨fun u hu=>(by cases hu),by simp⟩
  have e3:(∀ u ∈ f,Shp (NmL l) 8 u)∧f.length≤1:=by
   unfold finallyP at h3
   split at h3
   ·obtain⟨bb,k4,g4,h3⟩:=binds h3;cases h3;exact⟨fun u hu=>by rw[List.mem_singleton.1 hu];exact .fin (block_kh hF _ _ g4),by simp⟩
   ·
    cases h3;exact⟨fun u hu=>(by cases hu),by simp⟩
  split at h
  ·
   cases h
  ·rename_i hn
   cases h;exact .atm (block_kh hF _ _ h1) e2.1 e3.1 ⟨e2.2,e3.2,by omega⟩
theorem statement_kh (d i:Nat):Kh l 1 (statementP l F d i):=by
 unfold statementP
 split
 ·rename_i hq;exact part_kh hF d _ i (key_hd hq)
 ·intro t j h;unfold exprP at h;obtain⟨v,i1,h1,h⟩:=binds h;obtain⟨_,i2,h2,h⟩:=binds h;cases h;exact .expr (deep_kh (hF.vl _ _) v _ h1)
omit hF in
theorem fns_kh:∀ k,FKh l (fns l k):=by
 intro k
 induction k with
 | zero=>exact⟨fun _ _ _ _ h=>by (cases h),fun _ _ _ _ h=>by (cases h),fun _ _ _ _ _ h=>by (cases h),fun _ _ _ _ h=>by (cases h),fun _ _ _ _ h=>by (cases h),fun _ _ _ _ _ h=>by (cases h),fun _ _ _ _ h=>by (cases h)⟩
 | succ k ih=>exact⟨statement_kh ih,value_kh ih,pair_kh ih,single_kh ih,fun d i t j h=>by
   change valueP l (fns l k) d i=_ at h;unfold valueP at h;obtain⟨u,i1,h1,_⟩:=binds h;exact ih.bp _ _ _ _ _ h1,fun b d i t j h=>by
   change pairP l (fns l k) b d i=_ at h;unfold pairP at h;obtain⟨u,i1,h1,_⟩:=binds h;exact ih.bs _ _ _ _ h1,single_bg⟩
theorem progLoop_kh:∀ k acc i t j,(∀ x ∈ acc,Shp (NmL l) 1 x)→progLoop l F k acc i=.ok t j→∀ x ∈ t,Shp (NmL l) 1 x:=by
 intro k
 induction k with
 | zero=>intro acc i t j _ h;cases h
 | succ k ih=>
  intro acc i t j ha h;unfold progLoop at h;exact zbgt
theorem prog_kh:Kh l 9 (progP l F):=by
 intro t j h
 unfold progP at h
 obtain⟨ts,i1,h1,h⟩:=binds h
 cases h
 obtain⟨tx,h2,h3⟩:=codeT_mk 1 0 ts
 rw[h3]
 exact .prog h2 (progLoop_kh hF _ _ _ _ _ (fun _ h=>by cases h) h1)
end
theorem parse_sh {ws signs:List ByteArray}{s:ByteArray}{t:Tr}(h:parseS ws signs s=.ok t):∃ l,toksR ws signs s (pastN gapB s 0) []=.ok l∧Shp (NmL l) 9 t:=by
 unfold parseS at h
 split at h
 ·
  cases h
 ·split at h
  ·
   cases h
  ·rename_i l hl
   refine⟨l,hl,?_⟩
   cases hp:progP l (fns l KK) with
   | out=>rw[hp] at h;cases h
   | bad er p=>rw[hp] at h;cases h
   | ok t2 j=>
    rw[hp] at h;simp only at h
    split at h
    ·
     cases h
    ·
     cases h;exact prog_kh (fns_kh _) _ _ hp
end Go.Proofs.YtoimgcjbcbhclaaGreatDoor
namespace Go.Proofs.YtoimgcjbcbhclaaGreatDoor
open Go.RowKit
section
variable {Nm:ByteArray→Prop} {c:Nat} {t:Tr} (h:Shp Nm c t)
include Nm c t h
theorem shp_kids:∀ k ∈ t.kids,∃ c',Shp Nm c' k:=by
 induction h with
 | sblk h ih=>exact ih
 | name h=>intro k hk;cases hk
 | str s=>intro k hk;cases hk
 | num n=>intro k hk;cases hk
 | lit hk=>intro k hk;cases hk
 | memb h ht=>intro k hk;rw[List.mem_singleton.1 hk];exact⟨_,ht⟩
 | call ht hs hl=>
  intro k hk
  rcases List.mem_cons.1 hk with rfl|hk
  ·exact⟨_,ht⟩
  ·exact⟨_,hs k hk⟩
 | one hk ht=>intro k hk;rw[List.mem_singleton.1 hk];exact⟨_,ht⟩
 | two hk ha hb=>
  exact zbhj
 | asg hk ha hb=>
  exact zbhj
 | obj hs hl=>exact fun k hk=>⟨_,hs k hk⟩
 | lam h hp hb=>
  exact zbhi
 | prop h hv=>intro k hk;rw[List.mem_singleton.1 hk];exact⟨_,hv⟩
 | par h=>intro k hk;cases hk
 | pars hs hl=>exact fun k hk=>⟨_,hs k hk⟩
 | blk hs=>exact fun k hk=>⟨_,hs k hk⟩
 | body ht hs=>exact fun k hk=>⟨_,hs k hk⟩
 | decl hk h hv hl hc=>exact fun k hk=>⟨_,hv k hk⟩
 | func h hp hb=>
  exact zbhi
 | sif hv hs=>
  exact zbhh
 | sife hv hs he=>
  intro k hk
  rcases List.mem_cons.1 hk with rfl|hk
  ·exact⟨_,hv⟩
  ·rcases List.mem_cons.1 hk with rfl|hk
   ·exact⟨_,hs⟩
   ·rw[List.mem_singleton.1 hk];exact⟨_,he⟩
 | loop hk hv hs=>
  exact zbhh
 | give hk hv hl hc=>exact fun k hk=>⟨_,hv k hk⟩
 | atm hb hc hf hl=>
  intro k hk
  rcases List.mem_cons.1 hk with rfl|hk
  ·exact⟨_,hb⟩
  ·rcases List.mem_append.1 hk with hk|hk
   ·exact⟨_,hc k hk⟩
   ·exact⟨_,hf k hk⟩
 | cat h hb=>intro k hk;rw[List.mem_singleton.1 hk];exact⟨_,hb⟩
 | fin hb=>intro k hk;rw[List.mem_singleton.1 hk];exact⟨_,hb⟩
 | empty=>intro k hk;cases hk
 | expr hv=>intro k hk;rw[List.mem_singleton.1 hk];exact⟨_,hv⟩
 | prog ht hs=>exact fun k hk=>⟨_,hs k hk⟩
theorem shp_fun (hf:isFunT t=true):∃ p b,t.kids=[p,b]∧Shp Nm 5 p∧Shp Nm 4 b:=by
 induction h with
 | sblk h ih=>exact ih hf
 | lam h hp hb=>exact⟨_,_,rfl,hp,hb⟩
 | func h hp hb=>exact⟨_,_,rfl,hp,hb⟩
 | lit hk=>rcases hk with rfl|rfl|rfl|rfl <;> cases hf
 | one hk ht=>rcases hk with rfl|rfl|rfl <;> cases hf
 | two hk ha hb=>
  unfold isFunT at hf;simp[Tr.kd] at hf;omega
 | decl hk h hv hl hc=>rcases hk with rfl|rfl|rfl <;> cases hf
 | loop hk hv hs=>rcases hk with rfl|rfl <;> cases hf
 | give hk hv hl hc=>rcases hk with rfl|rfl <;> cases hf
 | _=>cases hf
end
def WS (t:Tr):Prop:=∃ (Nm:ByteArray→Prop) (c:Nat),Shp Nm c t
theorem WS.part {a k:Ad}(h:WS a.tr)(hk:k ∈ a.ks):WS k.tr:=by
 obtain⟨Nm,c,h⟩:=h
 obtain⟨c',h'⟩:=shp_kids h k.tr (by rw[a.tr_eq.2.2];exact List.mem_map_of_mem hk)
 exact⟨Nm,c',h'⟩
theorem shp_with {Nm:ByteArray→Prop}{c:Nat}{t:Tr}(h:Shp Nm c t)(hf:t.kd=9):∃ x y,t.kids=[x,y]:=by
 induction h with
 | sblk h ih=>exact ih hf
 | loop hk hv hs=>exact⟨_,_,rfl⟩
 | lit hk=>rcases hk with rfl|rfl|rfl|rfl <;> cases hf
 | one hk ht=>rcases hk with rfl|rfl|rfl <;> cases hf
 | two hk ha hb=>simp only[Tr.kd] at hf;omega
 | decl hk h hv hl hc=>rcases hk with rfl|rfl|rfl <;> cases hf
 | give hk hv hl hc=>rcases hk with rfl|rfl <;> cases hf
 | _=>cases hf
theorem WS.two {a:Ad}(h:WS a.tr)(hk:a.kd=9):∃ x y,a.ks=[x,y]:=by
 obtain⟨Nm,c,h⟩:=h
 obtain⟨x,y,e⟩:=shp_with h (by rw[a.tr_eq.1];exact hk)
 exact zbgd
def rfSc (t pr bl:Tr)(no:Nat)(ch:List Sc)(st:Bool):List Sc:=
 ⟨no,(onceL (pr.kids.map Tr.tx)++[tArguments])++namesT bl true,evWs bl.kids && !(st||decide (bl.tx=tStrict))⟩::(if t.kd==37 && !decide (t.tx=noText) then ⟨no,[t.tx],false⟩::ch else ch)
def rl:Nat→Tr→Nat→List Sc→Bool→List Us
 | 0,_,_,_,_=>[]
 | m+1,t,no,ch,st=>
  if t.kd=23 then [((no:Int),(findS ch t.tx true).1,(findS ch t.tx true).2)]
  else if t.kd=9 then match t.kids with
   | k0::k1::_=>rl m k0 (no+1) ch st++rl m k1 (no+1+k0.count) (⟨0,[],true⟩::ch) st
   | _=>[]
  else if t.kd=13 then tls (rl m) t.kids (no+1) (⟨no,[t.tx],false⟩::ch) st
  else if t.kd=6 then tls (rl m) t.kids (no+1) (⟨no,namesT t false,false⟩::ch) st
  else if t.kd=5∨t.kd=37 then match t.kids with
   | pr::bl::_=>tls (rl m) bl.kids (no+1+pr.count+1) (rfSc t pr bl no ch st) (st||decide (bl.tx=tStrict))
   | _=>[]
  else tls (rl m) t.kids (no+1) ch st
theorem rl_len:∀ (m:Nat) (t:Tr) (no:Nat) (ch:List Sc) (st:Bool),(rl m t no ch st).length≤t.count
 | 0,_,_,_,_=>Nat.zero_le _
 | m+1,t,no,ch,st=>by
  have ih:=tls_len (f:=rl m) (rl_len m);have hc:=count_kids t;rw[rl]
  split
  ·rw[List.length_singleton];omega
  split
  ·split
   ·rename_i k0 k1 ks hk
    rw[hk,counts_cons,counts_cons] at hc;have h1:=rl_len m k0 (no+1) ch st;have h2:=rl_len m k1 (no+1+k0.count) (⟨0,[],true⟩::ch) st;rw[List.length_append];omega
   ·exact Nat.zero_le _
  split
  ·have:=ih t.kids (no+1) (⟨no,[t.tx],false⟩::ch) st;omega
  split
  ·have:=ih t.kids (no+1) (⟨no,namesT t false,false⟩::ch) st;omega
  split
  ·split
   ·rename_i pr bl ks hk
    rw[hk,counts_cons,counts_cons] at hc;have h1:=ih bl.kids (no+1+pr.count+1) (rfSc t pr bl no ch st) (st||decide (bl.tx=tStrict));have h2:=count_kids bl;omega
   ·exact Nat.zero_le _
  ·have:=ih t.kids (no+1) ch st;omega
abbrev wkV (nb ob fb:Nat):Value:=.func (.func 70) #[] #[sPtr nb,sPtr ob,sPtr fb]
structure RgW (I:Nat→Prop)(nb mb ob fb:Nat)(A:List Nat)(L:List Us)(w:World):Prop where
 num:w.heap[nb]? = some (.cells #[.map (some mb)] 44 (0,0))
 map:w.heap[mb]? = some (.map (mapP (nodL A)) A.length)
 wlk:w.heap[fb]? = some (.cells #[wkV nb ob fb] 113 (0,0))
 out:∃ v,w.heap[ob]? = some (.cells #[v] 52 (0,0))∧w.ownsRow 0 57 3 v L.length (usCells L)∧(∀ b,I b→v.ownBlock≠some b)∧v.ownBlock≠some ob
 inb:I nb∧I mb∧I fb
 ne:∀ b,I b→b<w.heap.size∧b≠ob
 cl:∀ p ∈ A,I p∧Cl w p
 nd:A.Nodup
section
variable {I:Nat→Prop} {nb mb ob fb:Nat} {A:List Nat} {L:List Us} {w w':World} (h:RgW I nb mb ob fb A L w) (hb:Below w.heap.size w w')
include I nb mb ob fb A L w w' h hb
theorem RgW.later:RgW I nb mb ob fb A L w':=by
 obtain⟨h1,h2,h3,⟨v,k1,k2,k3,k4⟩,h5,h6,h7,h8⟩:=h
 exact⟨by rw[hb.block nb (lt_of_heap h1)];exact h1,by rw[hb.block mb (lt_of_heap h2)];exact h2,by rw[hb.block fb (lt_of_heap h3)];exact h3,⟨v,by rw[hb.block ob (lt_of_heap k1)];exact k1,owns_stay (I:=fun _=>True) (Below.stay hb) (fun _ _=>trivial) k2,k3,k4⟩,h5,fun b hb'=>⟨Nat.lt_of_lt_of_le (h6 b hb').1 hb.size,(h6 b hb').2⟩,fun p hp=>⟨(h7 p hp).1,Cl.fm (Fm.of hb) (h7 p hp).1 (h7 p hp).2⟩,h8⟩
theorem RgW.more:RgW (fun b=>I b∨(w.heap.size≤b∧b<w'.heap.size)) nb mb ob fb A L w':=by
 obtain⟨h1,h2,h3,⟨v,k1,k2,k3,k4⟩,h5,h6,h7,h8⟩:=h.later hb
 obtain⟨_,_,_,⟨v',j1,j2,j3,j4⟩,_⟩:=h
 have hv:v'=v:=by
  rw[hb.block ob (lt_of_heap j1),j1] at k1;simpa using k1
 subst hv
 refine⟨h1,h2,h3,⟨v',k1,k2,fun b hb' e=>?_,k4⟩,⟨Or.inl h5.1,Or.inl h5.2.1,Or.inl h5.2.2⟩,fun b hb'=>?_,fun p hp=>⟨Or.inl (h7 p hp).1,(h7 p hp).2⟩,h8⟩
 ·rcases hb' with hb' | hb'
  ·exact k3 b hb' e
  ·have:=(own_lt j2 b e).1;omega
 ·rcases hb' with hb' | hb'
  ·exact h6 b hb'
  ·have:=lt_of_heap j1;exact⟨hb'.2,by omega⟩
end
theorem RgW.less {I J:Nat→Prop}{nb mb ob fb:Nat}{A:List Nat}{L L':List Us}{w w':World}(h:RgW J nb mb ob fb A L' w')(h0:RgW I nb mb ob fb A L w)(hI:∀ b,I b→J b):RgW I nb mb ob fb A L' w':=by
 obtain⟨h1,h2,h3,⟨v,k1,k2,k3,k4⟩,h5,h6,h7,h8⟩:=h
 exact⟨h1,h2,h3,⟨v,k1,k2,fun b hb=>k3 b (hI b hb),k4⟩,h0.inb,fun b hb=>h6 b (hI b hb),fun p hp=>⟨(h0.cl p hp).1,(h7 p hp).2⟩,h8⟩
def rgCells (ps:List (Value × Sc)):List Value:=ps.flatMap fun x=>[.int .i64 x.2.own,x.1,.bool x.2.opn]
theorem rgCells_app (a b:List (Value × Sc)):rgCells (a++b)=rgCells a++rgCells b:=List.flatMap_append
theorem rgCells_at:∀ (ps:List (Value × Sc)) (k:Nat) (hk:k<ps.length),(rgCells ps)[3 * k]? = some (.int .i64 (ps[k]).2.own)∧(rgCells ps)[3 * k+1]? = some (ps[k]).1∧(rgCells ps)[3 * k+2]? = some (.bool (ps[k]).2.opn)
 | [],_,hk=>by cases hk
 | u::l,0,_=>⟨rfl,rfl,rfl⟩
 | u::l,k+1,hk=>by
  have h:=rgCells_at l k (by simpa using hk);have e:rgCells (u::l)=.int .i64 u.2.own::u.1 :: .bool u.2.opn::rgCells l:=rfl;have a0:3 * (k+1)=3 * k+1+1+1:=by omega
  have a1:3 * (k+1)+1=3 * k+1+1+1+1:=by omega
  have a2:3 * (k+1)+2=3 * k+2+1+1+1:=by omega
  rw[e,a1,a2,a0];simp only[List.getElem?_cons_succ,List.getElem_cons_succ];exact h
def RR (I:Nat→Prop)(w:World)(v:Value)(ps:List (Value × Sc)):Prop:=
 w.ownsRow 0 116 3 v ps.length (rgCells ps)∧(∀ g,v.ownBlock=some g→I g)∧∀ x ∈ ps,SRow 0 w x.1 x.2.nms∧(∀ g,x.1.ownBlock=some g→I g)∧x.2.nms.length≤90000
theorem RR.later {I:Nat→Prop}{w w':World}{v:Value}{ps:List (Value × Sc)}(h:RR I w v ps)(hs:Stay I w w'):RR I w' v ps:=
 ⟨owns_stay hs h.2.1 h.1,h.2.1,fun x hx=>⟨owns_stay hs (h.2.2 x hx).2.1 (h.2.2 x hx).1,(h.2.2 x hx).2⟩⟩
theorem RR.mono {I J:Nat→Prop}{w:World}{v:Value}{ps:List (Value × Sc)}(h:RR I w v ps)(hJ:∀ b,I b→J b):RR J w v ps:=
 ⟨h.1,fun g hg=>hJ g (h.2.1 g hg),fun x hx=>⟨(h.2.2 x hx).1,fun g hg=>hJ g ((h.2.2 x hx).2.1 g hg),(h.2.2 x hx).2.2⟩⟩
theorem RR.ones {I:Nat→Prop}{w:World}{v:Value}{ps:List (Value × Sc)}(h:RR I w v ps):∀ u ∈ rgCells ps,u.oneCell'=true:=by
 intro u hu
 obtain⟨x,hx,hu⟩:=List.mem_flatMap.1 hu
 simp only[List.mem_cons,List.not_mem_nil,or_false] at hu
 rcases hu with rfl|rfl|rfl
 ·rfl
 ·obtain⟨a,c,e⟩:=srow_form (h.2.2 x hx).1;rw[e];rfl
 ·rfl
def WalkC (m:Nat):Prop:=∀ (a:Ad),a.cnt≤m→∀ (I:Nat→Prop) (nb mb ob fb:Nat) (A pre post:List Nat) (L:List Us) (v:Value) (ps:List (Value × Sc)) (st:Bool) (w:World),
 A=pre++(a.ads++post)→RgW I nb mb ob fb A L w→AAt I w a→a.tr.ill=0→WS a.tr→RR I w v ps→0<ps.length→ps.length+a.cnt≤20000→L.length+a.cnt≤20000 →
 Calls Tryz.prog 70 #[nPtr a.p,v,.bool st,sPtr nb,sPtr ob,sPtr fb] w fun e w'=>e=.returned (.tuple #[])∧RgW I nb mb ob fb A (L++rl m a.tr pre.length ((ps.map Prod.snd).reverse) st) w'∧Fm I w w'
theorem AAt.two {I:Nat→Prop}{w:World}{a k k2:Ad}{ks:List Ad}(h:AAt I w a)(hk:a.ks=k::k2::ks):∃ g cap,w.cell? ⟨a.p,3,none⟩=some (.slice (some ⟨g,0,none⟩) (ks.length+2) cap)∧g<w.heap.size∧w.cell? ⟨g,0,none⟩=some (nPtr k.p)∧w.cell? ⟨g,1,none⟩=some (nPtr k2.p)∧I g:=by
 obtain⟨_,_,_,_,v,c3,hr,hi⟩:=h.cells
 rw[hk] at hr
 obtain⟨g,cap,rfl,hc⟩:=row_open hr (by simp)
 refine⟨g,cap,?_,(own_lt hr g rfl).1,?_,?_,hi g rfl⟩
 ·rw[c3];simp
 ·have:=hc 0 (by simp);simpa using this
 ·have:=hc 1 (by simp);simpa using this
theorem idx_pre {pre post:List Nat}{p:Nat}{r:List Nat}(h:(pre++((p::r)++post)).Nodup):(pre++((p::r)++post)).idxOf p=pre.length:=by
 have hp:p ∉ pre:=by
  rw[List.nodup_append] at h;exact fun hm=>h.2.2 p hm p (by simp) rfl
 rw[List.idxOf_append,if_neg hp]
 simp
theorem TW.num {I:Nat→Prop}{tb mb:Nat}{A pre post:List Nat}{L:List Us}{w X:World}{a:Ad}(h:TW I tb mb A L w)(hA:A=pre++(a.ads++post))(hX:Fm I w X) :
  (Instr.lookup 44 (.map (some mb)) (nPtr a.p) false).run Tryz.prog X=.ok (.int .i64 (pre.length:Int)) X:=by
 have hm:a.p ∈ A:=by rw[hA,ads_eq];simp
 have h1:=lookup_ptr mb A.length (nodL A) a.p X (by rw[hX.stay mb h.imb (h.ne mb h.imb).1];exact h.map) (Cl.fm hX (h.cl _ hm).1 (h.cl _ hm).2) (fun e he=>Cl.fm hX (h.cl _ (nodL_mem he)).1 (h.cl _ (nodL_mem he)).2)
 exact zbgu
theorem TW.word {I:Nat→Prop}{tb mb:Nat}{A:List Nat}{L:List Us}{w:World}(h:TW I tb mb A L w):w.cell? ⟨tb,0,none⟩=some (.map (some mb))∧tb<w.heap.size:=by
 obtain⟨⟨v,h1,_⟩,_⟩:=h
 exact⟨by rw[cell_of h1];rfl,lt_of_heap h1⟩
theorem ne_set {w:World}{b k o:Nat}(h:k≠b)(v:Value):(w.setCell ⟨b,o,none⟩ v).heap[k]? = w.heap[k]?:=Below.heap_setCell w ⟨b,o,none⟩ v k h
structure FnK (w:World)(p tb mb no:Nat)(kd:Int)(tx:ByteArray)(q0 q1:Nat)(sb ev:Bool)(P N:List ByteArray):Prop where
 c0:w.cell? ⟨p,0,none⟩=some (.int .i64 kd)
 c1:w.cell? ⟨p,1,none⟩=some (.string tx)
 kids:∃ g n cap,2≤n∧w.cell? ⟨p,3,none⟩=some (.slice (some ⟨g,0,none⟩) n cap)∧w.cell? ⟨g,0,none⟩=some (nPtr q0)∧w.cell? ⟨g,1,none⟩=some (nPtr q1)
 word:w.cell? ⟨tb,0,none⟩=some (.map (some mb))
 num:∀ X,Below w.heap.size w X→(Instr.lookup 44 (.map (some mb)) (nPtr p) false).run Tryz.prog X=.ok (.int .i64 (no:Int)) X
 st:∀ X,Below w.heap.size w X→Calls Tryz.prog 118 #[nPtr q1] X fun e w'=>e=.returned (.bool sb)∧w'=X
 tx:∃ ua uc,w.cell? ⟨q0,3,none⟩=some (.slice ua P.length uc)∧∀ X,Below w.heap.size w X→Calls Tryz.prog 125 #[.slice ua P.length uc] X fun e w'=>(∃ u,e=.returned u∧SRow X.heap.size w' u P)∧Below X.heap.size X w'
 nm:∀ X,Below w.heap.size w X→Calls Tryz.prog 113 #[nPtr q1,.bool true] X fun e w'=>(∃ u,e=.returned u∧SRow X.heap.size w' u N)∧Below X.heap.size X w'
 ev:∀ X,Below w.heap.size w X→Calls Tryz.prog 28 #[nPtr q1] X fun e w'=>e=.returned (.bool ev)∧Below X.heap.size X w'
 lp:P.length≤20000
 ln:N.length≤70000
def Lam (w w':World)(oa:Option Addr)(no:Nat)(kd:Int)(tx:ByteArray)(b:Nat)(v:Value):Prop:=
 ((kd==37)=false∧v=.pointer oa)∨((kd==37)=true∧∃ b2 nv,v=sPtr b2∧w.heap.size≤b2∧b2<b∧w'.heap[b2]? = some (scObj no nv false (.pointer oa))∧SRow w.heap.size w' nv [tx])
def FnPost (w:World)(oa:Option Addr)(no:Nat)(kd:Int)(tx:ByteArray)(st2 op:Bool)(l:List ByteArray)(e:Ending)(w':World):Prop:=
 (∃ b nv v,e=.returned (plV2 (sPtr b) st2)∧w.heap.size≤b∧w'.heap[b]? = some (scObj no nv op v)∧SRow w.heap.size w' nv l∧Lam w w' oa no kd tx b v)∧Below w.heap.size w w'
section
variable (w:World) (p tb mb no q0 q1:Nat) (tx:ByteArray)
include w p tb mb no q0 q1 tx
open zrqa in
theorem fn5t (sb ev:Bool)(P N:List ByteArray)(oa:Option Addr)(h:FnK w p tb mb no 5 tx q0 q1 sb ev P N) :
  Calls Tryz.prog 128 #[sPtr tb,nPtr p,plV2 (.pointer oa) true] w (FnPost w oa no 5 tx true false ((P++[tArguments])++N)):=by
 exact zro
open zrqb in
theorem fn5ft (ev:Bool)(P N:List ByteArray)(oa:Option Addr)(h:FnK w p tb mb no 5 tx q0 q1 true ev P N) :
  Calls Tryz.prog 128 #[sPtr tb,nPtr p,plV2 (.pointer oa) false] w (FnPost w oa no 5 tx true false ((P++[tArguments])++N)):=by
 exact zrg
end
section
variable (w:World) (p tb mb no q0 q1:Nat) (tx:ByteArray)
include w p tb mb no q0 q1 tx
open zrqc in
theorem fn5ff (ev:Bool)(P N:List ByteArray)(oa:Option Addr)(h:FnK w p tb mb no 5 tx q0 q1 false ev P N) :
  Calls Tryz.prog 128 #[sPtr tb,nPtr p,plV2 (.pointer oa) false] w (FnPost w oa no 5 tx false ev ((P++[tArguments])++N)):=by
 exact zrg
open zrqd in
theorem fn37t (sb ev:Bool)(P N:List ByteArray)(oa:Option Addr)(h:FnK w p tb mb no 37 tx q0 q1 sb ev P N) :
  Calls Tryz.prog 128 #[sPtr tb,nPtr p,plV2 (.pointer oa) true] w (FnPost w oa no 37 tx true false ((P++[tArguments])++N)):=by
 exact zro
end
section
variable (w:World) (p tb mb no q0 q1:Nat) (tx:ByteArray) (ev:Bool) (P N:List ByteArray) (oa:Option Addr)
include w p tb mb no q0 q1 tx ev P N oa
open zrqe in
theorem fn37ft (h:FnK w p tb mb no 37 tx q0 q1 true ev P N) :
  Calls Tryz.prog 128 #[sPtr tb,nPtr p,plV2 (.pointer oa) false] w (FnPost w oa no 37 tx true false ((P++[tArguments])++N)):=by
 exact zrg
open zrqf in
theorem fn37ff (h:FnK w p tb mb no 37 tx q0 q1 false ev P N) :
  Calls Tryz.prog 128 #[sPtr tb,nPtr p,plV2 (.pointer oa) false] w (FnPost w oa no 37 tx false ev ((P++[tArguments])++N)):=by
 exact zrg
end
end Go.Proofs.YtoimgcjbcbhclaaGreatDoor
