/-
  What Parse answers of every text.
-/
import Derived.Test.YtoimgcjbcbhclaaGreatDoorWt22
set_option maxRecDepth 100000
set_option maxHeartbeats 16000000
namespace Go.Proofs.YtoimgcjbcbhclaaGreatDoor
open Go.RowKit
theorem many_any (B:Nat)(t:Tr)(p:Nat)(w:World)(h:NAt (From B) w t p)(hc:t.count≤90000) :
  Calls Tryz.prog 44 #[nPtr p] w fun e w'=>e=.returned (.int .i64 (t.count:Int))∧Below w.heap.size w w':=by
 have hmf:=mf_run
 have hn:NAt (fun x=>x≠w.heap.size) (w.alloc (.cells #[.int .i64 0] 3)) t p:=
  NAt.later (I:=fun x=>x≠w.heap.size) (fun b _ hl=>Below.heap_alloc w _ b hl) _ _ (NAt.mono (fun b _ hl=>by omega) _ _ h)
 have hcn:Cnt w.heap.size 0 (w.alloc (.cells #[.int .i64 0] 3)):=⟨heap_new _ _⟩
 have HC:=hide (walk_any w.heap.size t.count t (Nat.le_refl _) p 0 _ hn hcn (by omega))
 clear h hn hcn hc
 go_enter Tryz.func44,Tryz.ntmps44
 go_wp2_with fail
 refine cm HC.out ?_
 rintro e w1 ⟨rfl,hc1,ha1⟩
 have c0:w1.cell? ⟨w.heap.size,0,none⟩=some (.int .i64 (((0+t.count:Nat)):Int)):=by rw[cell_of hc1.blk];rfl
 rw[Nat.zero_add] at c0
 have HB:Hid (Below w.heap.size w w1):=((Below.refl _ _).alloc (Nat.le_refl _) (.cells #[.int .i64 0] 3)).trans ((ha1.mono (by simp)).below (Nat.le_refl _))
 clear hc1 ha1 HC
 go_wp2_with fail
 go_ret
 exact⟨rfl,HB.out⟩
inductive PaR where
 | ok (t:Tr)
 | at (er:Int) (p:Nat)
 | bare
abbrev KK:Nat:=24100
def parseS (ws gs:List ByteArray)(s:ByteArray):PaR:=
 if 3000<s.size then .bare
 else match toksR ws gs s (pastN gapB s 0) [] with
  | .bad er p=>.at er p
  | .ok l=>match progP l (fns l KK) with
   | .bad er p=>.at er p
   | .ok t _=>if 1500<t.count then .bare else .ok t
   | .out=>.bare
def PaPost (r:PaR)(w:World)(e:Ending)(w':World):Prop:=
 match r with
 | .ok t=>∃ p,e=.returned (.tuple #[nPtr p,.nilIface])∧NAt (From w.heap.size) w' t p∧Below w.heap.size w w'
 | .at er pl=>∃ b,e=.returned (.tuple #[.pointer none,.iface 144 (.pointer (some ⟨b,0,none⟩))])∧w'.heap[b]? = some (.cells #[.int .i64 er,.int .i64 (pl:Int)] 145 (0,0))∧w.heap.size≤b∧Below w.heap.size w w'
 | .bare=>e=.returned (.tuple #[.pointer none,.iface 31 (.int .i64 4)])∧Below w.heap.size w w'
theorem rdTok_kd {ws gs:List ByteArray}{s:ByteArray}{k:Nat}{kd n:Int}{tx:ByteArray}{e:Nat}(h:rdTok ws gs s k=.tok kd tx n e):kd≠6:=by
 unfold rdTok at h
 split at h
 ·unfold rdName at h
  split at h
  ·
   cases h;decide
  ·split at h
   ·
    cases h
   ·
    cases h;decide
 ·split at h
  ·unfold rdNum at h
   split at h
   ·
    cases h
   ·split at h
    ·
     cases h
    ·split at h
     ·
      cases h
     ·
      cases h;decide
  ·split at h
   ·unfold rdStr at h
    split at h
    ·split at h
     ·
      cases h
     ·
      cases h;decide
    ·
     cases h
   ·unfold rdSign at h
    split at h
    ·
     cases h;decide
    ·
     cases h
theorem toks_form (ws gs:List ByteArray)(s:ByteArray)(hgs:∀ g ∈ gs,1≤g.size):∀ m i acc l,s.size - i=m→i≤s.size→toksR ws gs s i acc=.ok l →
  ∃ l',l=acc++l'++[⟨6,⟨#[]⟩,0,s.size⟩]∧(∀ t ∈ l',t.kd≠6)∧l'.length≤s.size - i:=by
 intro m
 induction m using Nat.strongRecOn with
 | ind m ih=>
  intro i acc l hm hi h
  by_cases hlt:i<s.size
  ·
   cases hr:rdTok ws gs s i with
   | bad er p=>rw[toksR_bad ws gs s i acc er p hlt hr] at h;cases h
   | tok kd tx n e=>
    have hb:=rdTok_bounds ws gs s i kd n tx e hlt hgs hr;rw[toksR_go ws gs s i acc kd n tx e hlt hr hb.1] at h;have hge:=pastN_ge gapB s e;have hle:=pastN_le gapB s e hb.2
    obtain⟨l',h1,h2,h3⟩:=ih (s.size - pastN gapB s e) (by omega) (pastN gapB s e) _ l rfl hle h;refine⟨⟨kd,tx,n,i⟩::l',by rw[h1];simp,fun t ht=>?_,by simp;omega⟩
    rcases List.mem_cons.1 ht with rfl|ht
    ·exact rdTok_kd hr
    ·exact h2 t ht
  ·rw[toksR_end ws gs s i acc hlt] at h;exact⟨[],by cases h;simp,fun t ht=>absurd ht (by simp),by simp⟩
theorem toks_ends {ws gs:List ByteArray}{s:ByteArray}(hgs:∀ g ∈ gs,1≤g.size){l:List Tk}(h:toksR ws gs s (pastN gapB s 0) []=.ok l):Ends l∧0<l.length∧l.length≤s.size+1:=by
 obtain⟨l',h1,h2,h3⟩:=toks_form ws gs s hgs _ (pastN gapB s 0) [] l rfl (pastN_le gapB s 0 (Nat.zero_le _)) h
 rw[List.nil_append] at h1
 subst h1
 refine⟨fun i hi=>?_,by simp,by simp;omega⟩
 rw[List.length_append,List.length_singleton] at hi
 unfold tkA
 rw[List.getD_eq_getElem?_getD,List.length_append,List.length_singleton]
 by_cases hil:i<l'.length
 ·rw[List.getElem?_append_left hil,List.getElem?_eq_getElem hil];constructor
  ·intro h6;exact absurd h6 (h2 _ (List.getElem_mem hil))
  ·intro h6;omega
 ·have hi2:i=l'.length:=by omega
  subst hi2;rw[List.getElem?_append_right (Nat.le_refl _),Nat.sub_self];simp
section
variable {l:List Tk} {k:Nat} {F:Fns} (hF:FNx l k F)
include l k F hF
theorem progLoop_nx (hk:8 * l.length+3<k):∀ n acc i,i<l.length→l.length - i<n→progLoop l F n acc i≠.out:=by
 intro n
 induction n with
 | zero=>intro acc i hi hn;omega
 | succ n ih=>
  intro acc i hi hn;unfold progLoop
  split
  ·nofun
  ·have hd:=deepP_nx (l:=l) (d:=0) ((hF.st (0+1) i hi).imp (q':=True) (fun _=>by omega))
   cases hr:deepP l F.st 0 i with
   | out=>exact absurd hr (hd.1 trivial)
   | bad er p=>rw[PR.bind];nofun
   | ok t j=>
    have:=hd.2 t j hr;exact ih _ j this.2 (by omega)
theorem progLoop_lt:∀ n acc i ts j,i<l.length→progLoop l F n acc i=.ok ts j→j<l.length:=by
 intro n
 induction n with
 | zero=>intro acc i ts j _ h;cases h
 | succ n ih=>
  intro acc i ts j hi h;unfold progLoop at h
  split at h
  ·
   cases h;exact hi
  ·obtain⟨t,j1,h1,h⟩:=bind_inv h;exact ih _ j1 _ _ ((deepP_nx (l:=l) (d:=0) (hF.st (0+1) i hi)).2 t j1 h1).2 h
end
theorem prog_total {l:List Tk}(hE:Ends l)(h0:0<l.length)(hl:l.length≤3001):progP l (fns l KK)≠.out∧∀ t j,progP l (fns l KK)=.ok t j→j<l.length:=by
 have hF:=fns_nx hE KK
 have h1:=progLoop_nx hF (by unfold KK;omega) (fns l KK).fuel [] 0 h0 (by rw[hF.fuel];unfold KK;omega)
 unfold progP
 constructor
 ·
  cases hr:progLoop l (fns l KK) (fns l KK).fuel [] 0 with
  | out=>exact absurd hr h1
  | bad er p=>nofun
  | ok ts j=>nofun
 ·intro t j h;obtain⟨ts,j1,h2,h⟩:=bind_inv h;cases h;exact progLoop_lt hF _ _ _ _ _ h0 h2
structure Tabs (w:World):Prop where
 heads:∃ t fr,w.heap[3]? = some (.cells hdCells t fr)
 signs:∃ t fr,w.heap[2]? = some (.cells sgCells t fr)
theorem Tabs.later {w w':World}(h:Tabs w)(hb:Below w.heap.size w w'):Tabs w':=by
 obtain⟨⟨t,fr,h1⟩,⟨t2,fr2,h2⟩⟩:=h
 exact⟨⟨t,fr,by rw[hb.block _ (lt_of_heap h1)];exact h1⟩,⟨t2,fr2,by rw[hb.block _ (lt_of_heap h2)];exact h2⟩⟩
theorem rw_below (w:World):Below w.heap.size w (RW w):=((Below.refl _ _).alloc (Nat.le_refl _) _).alloc (by simp) _
theorem readToks_any (w:World)(l:List Tk)(g cap:Nat)(cur:Array Value)(hE:Ends l)(h0:0<l.length)(hl:l.length≤3001)(ht:w.heap[g]? = some (.cells cur 138 (0,0)))(hcap:l.length≤cap∧cap≤maxLen∧cur.size=cap * 4∧cur.toList.take (l.length * 4)=tksCells l)(hT:Tabs w) :
  Calls Tryz.prog 43 #[.slice (some ⟨g,0,none⟩) l.length cap] w (RdPost (progP l (fns l KK)) w):=by
 have hb:=rw_below w
 have hT2:=hT.later hb
 have HN:=newReader_any (RW w) l g cap cur hE h0 hl (by rw[hb.block _ (lt_of_heap ht)];exact ht) hcap hT2.heads hT2.signs
 have hF:∀ c:Ctx,c.l=l→FC c (fns c.l KK):=fun c hc=>fns_does c (by rw[hc];exact hE) KK
 have hp:=(prog_total hE h0 hl).1
 cases hr:progP l (fns l KK) with
 | out=>exact absurd hr hp
 | bad er pl=>
  refine read_bad w l g cap er pl HN fun c W hc hrd=>?_;exact zbgg
 | ok t j=>
  refine read_ok w l g cap t j HN fun c W hc hrd=>?_;exact zbgg
section
variable (s:ByteArray) (w:World)
include s w
theorem parse_long (hs:3000<s.size):Calls Tryz.prog 14 #[.string s] w (PaPost .bare w):=by
 have HC:=hide (tokens_long s w hs)
 clear hs
 go_enter Tryz.func14,Tryz.ntmps14
 go_wp2_with fail
 refine cm HC.out ?_
 rintro e w1 ⟨rfl,rfl⟩
 go_wp2_with fail
 exact bodyPost_ret (v:=.tuple #[.pointer none,.iface 31 (.int .i64 4)]) (by simp[results,Tryz.results14,go_sem]) rfl ⟨rfl,Below.refl _ _⟩
theorem parse_toks (er:Int)(p:Nat)(h:Calls Tryz.prog 42 #[.string s] w (TPost (.bad er p) w)):Calls Tryz.prog 14 #[.string s] w (PaPost (.at er p) w):=by
 have HC:=hide h
 clear h
 go_enter Tryz.func14,Tryz.ntmps14
 go_wp2_with fail
 refine cm HC.out ?_
 rintro e w1 ⟨b,rfl,hb1,hb2,hb3⟩
 have H1:=hide hb1
 have H3:=hide hb3
 have H2:=hide hb2
 clear hb1 hb2 hb3 HC
 exact zbfq
theorem parse_bad (l:List Tk)(er:Int)(p:Nat)(h:Calls Tryz.prog 42 #[.string s] w (TPost (.ok l) w))(h0:0<l.length)(hr:∀ (W:World) (g cap:Nat) (cur:Array Value),Below w.heap.size w W→W.heap[g]? = some (.cells cur 138 (0,0))→(l.length≤cap∧cap≤maxLen∧cur.size=cap * 4∧cur.toList.take (l.length * 4)=tksCells l)→Calls Tryz.prog 43 #[.slice (some ⟨g,0,none⟩) l.length cap] W (RdPost (.bad er p) W)) :
  Calls Tryz.prog 14 #[.string s] w (PaPost (.at er p) w):=by
 have HC:=hide h
 have HR:=hide hr
 clear h hr
 go_enter Tryz.func14,Tryz.ntmps14
 go_wp2_with fail
 refine cm HC.out ?_
 rintro e w1 ⟨v,rfl,hown,hb1⟩
 rcases hown.2 with hn|⟨g,cap,cur,rfl,hg,hh,h1,h2,h3,h4⟩
 ·omega
 ·have HC2:=hide (HR.out w1 g cap cur hb1 hh ⟨h1,h2,h3,h4⟩);have HB1:=hide hb1;clear hown hb1 hg hh h1 h2 h3 h4 HC;go_wp2_with fail;refine cm HC2.out ?_;rintro e w2 ⟨b,rfl,hb1,hb2,hb3⟩;have H1:=hide hb1
  have H3:=hide (HB1.out.trans (hb3.mono HB1.out.size));have H2:=hide (Nat.le_trans HB1.out.size hb2);clear hb1 hb2 hb3 HC2;exact zbfq
theorem parse_ok (l:List Tk)(t:Tr)(j:Nat)(h:Calls Tryz.prog 42 #[.string s] w (TPost (.ok l) w))(h0:0<l.length)(hc:t.count≤90000)(hr:∀ (W:World) (g cap:Nat) (cur:Array Value),Below w.heap.size w W→W.heap[g]? = some (.cells cur 138 (0,0))→(l.length≤cap∧cap≤maxLen∧cur.size=cap * 4∧cur.toList.take (l.length * 4)=tksCells l)→Calls Tryz.prog 43 #[.slice (some ⟨g,0,none⟩) l.length cap] W (RdPost (.ok t j) W)) :
  Calls Tryz.prog 14 #[.string s] w (PaPost (if 1500<t.count then .bare else .ok t) w):=by
 have HC:=hide h
 have HR:=hide hr
 have HCC:=hide hc
 obtain⟨r,hrr⟩:∃ r,r=(if 1500<t.count then PaR.bare else .ok t):=⟨_,rfl⟩
 rw[←hrr]
 have HRR:=hide hrr
 clear h hr hc hrr
 go_enter Tryz.func14,Tryz.ntmps14
 go_wp2_with fail
 refine cm HC.out ?_
 rintro e w1 ⟨v,rfl,hown,hb1⟩
 rcases hown.2 with hn|⟨g,cap,cur,rfl,hg,hh,h1,h2,h3,h4⟩
 ·omega
 ·have HC2:=hide (HR.out w1 g cap cur hb1 hh ⟨h1,h2,h3,h4⟩);have HB1:=hide hb1;clear hown hb1 hg hh h1 h2 h3 h4 HC;go_wp2_with fail;refine cm HC2.out ?_;rintro e w2 ⟨p,rfl,hn,hb⟩;have HN:=hide hn
  have HB2:=hide (HB1.out.trans (hb.mono HB1.out.size));have HC3:=hide (many_any w1.heap.size t p w2 hn HCC.out);have HS1:=hide HB1.out.size;clear hn hb HC2;go_wp2_with fail;refine cm HC3.out ?_
  rintro e w3 ⟨rfl,hb3⟩;have HB3:=hide (HB2.out.trans (hb3.mono HB2.out.size))
  have HN3:Hid (NAt (From w.heap.size) w3 t p):=NAt.mono (fun b hb _=>Nat.le_trans HS1.out hb) _ _ (NAt.later (I:=From w1.heap.size) (fun b _ hl=>hb3.block b hl) _ _ HN.out);clear hb3 HC3
  by_cases h15:1500<t.count
  ·have hq:r=.bare:=by rw[HRR.out,if_pos h15]
   have HQ:=hide hq;clear hq;have hi:(1500:Int)<(t.count:Int):=by omega
   clear h15;go_wp2_with fail;exact bodyPost_ret (v:=.tuple #[.pointer none,.iface 31 (.int .i64 4)]) (by simp[results,Tryz.results14,go_sem]) rfl (by rw[HQ.out];exact⟨rfl,HB3.out⟩)
  ·have hq:r=.ok t:=by rw[HRR.out,if_neg h15]
   have HQ:=hide hq;clear hq;have hi:¬ (1500:Int)<(t.count:Int):=by omega
   clear h15;go_wp2_with fail;exact bodyPost_ret (v:=.tuple #[nPtr p,.nilIface]) (by simp[results,Tryz.results14,go_sem]) rfl (by rw[HQ.out];exact⟨p,rfl,HN3.out,HB3.out⟩)
end
theorem parse_any (ws gs:List ByteArray)(s:ByteArray)(w:World)(hL:Lists ws gs w)(hgs:∀ g ∈ gs,1≤g.size)(hT:Tabs w):Calls Tryz.prog 14 #[.string s] w (PaPost (parseS ws gs s) w):=by
 unfold parseS
 by_cases hs:3000<s.size
 ·rw[if_pos hs];exact parse_long s w hs
 ·rw[if_neg hs];have hk:=tokens_any ws gs s w (by omega) hL hgs
  cases ht:toksR ws gs s (pastN gapB s 0) [] with
  | bad er p=>rw[ht] at hk;exact parse_toks s w er p hk
  | ok l=>
   rw[ht] at hk;obtain⟨hE,h0,hl⟩:=toks_ends hgs ht;have hl2:l.length≤3001:=by omega
   obtain⟨hp1,hp2⟩:=prog_total hE h0 hl2;have hrd:=fun(W:World) (g cap:Nat) (cur:Array Value) (hb:Below w.heap.size w W) hh hcap=>readToks_any W l g cap cur hE h0 hl2 hh hcap (hT.later hb);simp only
   cases hr:progP l (fns l KK) with
   | out=>exact absurd hr hp1
   | bad er p=>rw[hr] at hrd;exact parse_bad s w l er p hk h0 hrd
   | ok t j=>
    rw[hr] at hrd;have hj:=hp2 t j hr;have hcb:=prog_cb (fns_cb KK) hr;exact parse_ok s w l t j hk h0 (by omega) hrd
end Go.Proofs.YtoimgcjbcbhclaaGreatDoor
namespace Go.Proofs.YtoimgcjbcbhclaaGreatDoor
open Go.ChangeShapes Go.WideShapes Go.ChangeAt Go.WideMaps Go.WideElems Go.RowKit
theorem gTSigns : Tryz.prog.globalNamed "sloppyscope/tree.signs" = some 2 := by kernel_rfl
theorem gTHeads : Tryz.prog.globalNamed "sloppyscope/tree.heads" = some 3 := by kernel_rfl
theorem tTSigns:(Tryz.prog.globals[2]?).map (·.type)=some 190:=by kernel_rfl
theorem tTHeads:(Tryz.prog.globals[3]?).map (·.type)=some 194:=by kernel_rfl
theorem cells160:Tryz.prog.cellsOf 189=4:=by kernel_rfl
theorem cells3:Tryz.prog.cellsOf 3=1:=by kernel_rfl
theorem cells161:Tryz.prog.cellsOf 190=56:=by kernel_rfl
theorem cellsHd:Tryz.prog.cellsOf 193=2:=by kernel_rfl
theorem cellsHds:Tryz.prog.cellsOf 194=16:=by kernel_rfl
theorem of_pieces (k:Nat)(hk:0<k):∀ (L:List (List Value)) (cs:List Value),(∀ l ∈ L,l.length=k)→cs.length=L.length * k→(∀ i (hi:i<L.length),(cs.drop (i * k)).take k=L[i])→cs=L.flatten
 | [],cs,_,hl,_=>by
  have:cs.length=0:=by simpa using hl
  simpa using this
 | l::L,cs,h,hl,hp=>by
  have h0:=hp 0 (by simp);simp only[Nat.zero_mul,List.drop_zero,List.getElem_cons_zero] at h0
  have h1:=of_pieces k hk L (cs.drop k) (fun x hx=>h x (List.mem_cons_of_mem _ hx)) (by rw[List.length_drop,hl,List.length_cons,Nat.add_mul];omega) (fun i hi=>by
   have:=hp (i+1) (by simpa using hi);rw[List.getElem_cons_succ] at this;rw[List.drop_drop,show k+i * k=(i+1) * k by rw[Nat.add_mul];omega]
   exact this)
  rw[List.flatten_cons,←h0,←h1,List.take_append_drop]
section
variable {W:World} {fuel:Nat} {cs:List Value}
include W fuel cs
theorem int_of {z:Int}{q:List MemPlace}(h:DataW.trod (fun _=>()) Tryz.prog W 0 (fun _=>true) false fuel 3 cs=some (.lit (.int .i64 z),q)):cs=[.int .i64 z]:=by
 obtain⟨k,e,f,_⟩:=DataW.trod_int Tryz.underlying3 h
 simp only[Prod.mk.injEq,DataW.lit.injEq,Lit.int.injEq,true_and] at f
 rw[e,←f.1]
theorem text_of {l:List UInt8}{q:List MemPlace}(h:DataW.trod (fun _=>()) Tryz.prog W 0 (fun _=>true) false fuel 9 cs=some (.lit (.string l),q)):cs=[.string (ofBytes l)]:=by
 obtain⟨s,e1,e2,_⟩:=DataW.trod_string Tryz.underlying9 h
 simp only[Prod.mk.injEq,DataW.lit.injEq,Lit.string.injEq] at e2
 rw[e1,ofBytes_eq e2.1.symm]
end
theorem fields4 {cs:List Value}(hl:cs.length=4){a b c d:Value}(h0:(cs.drop 0).take 1=[a])(h1:(cs.drop 1).take 1=[b])(h2:(cs.drop 2).take 1=[c])(h3:(cs.drop 3).take 1=[d]):cs=[a,b,c,d]:=by
 match cs,hl with
 | [x,y,z,u],_=>simp at h0 h1 h2 h3;rw[h0,h1,h2,h3]
theorem fields2 {cs:List Value}(hl:cs.length=2){a b:Value}(h0:(cs.drop 0).take 1=[a])(h1:(cs.drop 1).take 1=[b]):cs=[a,b]:=by
 match cs,hl with
 | [x,y],_=>simp at h0 h1;rw[h0,h1]
def sgD (l:List UInt8)(a b c:Int):DataW Unit:=.agg [.lit (.string l),.lit (.int .i64 a),.lit (.int .i64 b),.lit (.int .i64 c)]
def hdD (l:List UInt8)(a:Int):DataW Unit:=.agg [.lit (.string l),.lit (.int .i64 a)]
theorem fst_at {H:Type}{xs:List (DataW H × List MemPlace)}{ds:List (DataW H)}(h:ds=xs.map (·.1))(i:Nat)(d:DataW H)(hd:ds[i]? = some d):∃ q,xs[i]? = some (d,q):=by
 subst h
 rw[List.getElem?_map] at hd
 cases hx:xs[i]? with
 | none=>rw[hx] at hd;cases hd
 | some x=>
  rw[hx] at hd;exact⟨x.2,by rw[←Option.some.inj hd]⟩
section
variable {W:World} {fuel:Nat} {cs:List Value} {l:List UInt8}
include W fuel cs l
theorem sg_of {a b c:Int}{q:List MemPlace}(h:DataW.trod (fun _=>()) Tryz.prog W 0 (fun _=>true) false fuel 189 cs=some (sgD l a b c,q)) :
  cs=[.string (ofBytes l),.int .i64 a,.int .i64 b,.int .i64 c]:=by
 obtain⟨xs,n,_,hx,hl,hn,hel⟩:=DataW.trod_struct Tryz.underlying189 h
 simp only[Prod.mk.injEq,sgD,DataW.agg.injEq] at hx
 rw[cells160] at hl
 obtain⟨q0,x0⟩:=fst_at hx.1 0 _ rfl
 obtain⟨q1,x1⟩:=fst_at hx.1 1 _ rfl
 obtain⟨q2,x2⟩:=fst_at hx.1 2 _ rfl
 obtain⟨q3,x3⟩:=fst_at hx.1 3 _ rfl
 have f0:=hel 0 _ rfl
 have f1:=hel 1 _ rfl
 have f2:=hel 2 _ rfl
 have f3:=hel 3 _ rfl
 rw[x0] at f0
 rw[x1] at f1
 rw[x2] at f2
 rw[x3] at f3
 have g0:(cs.drop 0).take (Tryz.prog.cellsOf 9)=_:=text_of f0
 have g1:(cs.drop 1).take (Tryz.prog.cellsOf 3)=_:=int_of f1
 have g2:(cs.drop 2).take (Tryz.prog.cellsOf 3)=_:=int_of f2
 have g3:(cs.drop 3).take (Tryz.prog.cellsOf 3)=_:=int_of f3
 rw[cells9] at g0
 rw[cells3] at g1 g2 g3
 exact fields4 hl g0 g1 g2 g3
theorem hd_of {a:Int}{q:List MemPlace}(h:DataW.trod (fun _=>()) Tryz.prog W 0 (fun _=>true) false fuel 193 cs=some (hdD l a,q)) :
  cs=[.string (ofBytes l),.int .i64 a]:=by
 obtain⟨xs,n,_,hx,hl,hn,hel⟩:=DataW.trod_struct Tryz.underlying193 h
 simp only[Prod.mk.injEq,hdD,DataW.agg.injEq] at hx
 rw[cellsHd] at hl
 obtain⟨q0,x0⟩:=fst_at hx.1 0 _ rfl
 obtain⟨q1,x1⟩:=fst_at hx.1 1 _ rfl
 have f0:=hel 0 _ rfl
 have f1:=hel 1 _ rfl
 rw[x0] at f0
 rw[x1] at f1
 have g0:(cs.drop 0).take (Tryz.prog.cellsOf 9)=_:=text_of f0
 have g1:(cs.drop 1).take (Tryz.prog.cellsOf 3)=_:=int_of f1
 rw[cells9] at g0
 rw[cells3] at g1
 exact fields2 hl g0 g1
end
def sgL4:List (List UInt8 × Int × Int × Int):=sgs.map fun e=>(e.tx.data.toList,e.kd,e.parts,e.str)
def hdL2:List (List UInt8 × Int):=hds.map fun e=>(e.1.data.toList,e.2)
section
variable {W:World} {fuel:Nat} {cs:List Value} {p:List MemPlace}
include W fuel cs p
theorem tsigns_of (h:DataW.trod (fun _=>()) Tryz.prog W 0 (fun _=>true) false fuel 190 cs=some (.agg (sgL4.map fun e=>sgD e.1 e.2.1 e.2.2.1 e.2.2.2),p)):cs=sgCells.toList:=by
 obtain⟨xs,m,_,hx,hlen,hn,hel⟩:=DataW.trod_array Tryz.underlying190 h
 simp only[Prod.mk.injEq,DataW.agg.injEq] at hx
 rw[cells161] at hlen
 have key:cs=(sgL4.map fun e=>[Value.string (ofBytes e.1),.int .i64 e.2.1,.int .i64 e.2.2.1,.int .i64 e.2.2.2]).flatten:=by
  refine of_pieces 4 (by decide) _ cs ?_ (by rw[hlen];rfl) ?_
  ·intro l hl;obtain⟨e,_,rfl⟩:=List.mem_map.1 hl;rfl
  ·intro i hi;rw[List.length_map] at hi;have hi14:i<14:=hi;have he:=hel i hi14;rw[cells160] at he;obtain⟨q,hq⟩:=fst_at hx.1 i _ (by rw[List.getElem?_map,List.getElem?_eq_getElem hi];rfl)
   rw[hq] at he;rw[sg_of he,List.getElem_map]
 rw[key]
 rfl
theorem theads_of (h:DataW.trod (fun _=>()) Tryz.prog W 0 (fun _=>true) false fuel 194 cs=some (.agg (hdL2.map fun e=>hdD e.1 e.2),p)):cs=hdCells.toList:=by
 obtain⟨xs,m,_,hx,hlen,hn,hel⟩:=DataW.trod_array Tryz.underlying194 h
 simp only[Prod.mk.injEq,DataW.agg.injEq] at hx
 rw[cellsHds] at hlen
 have key:cs=(hdL2.map fun e=>[Value.string (ofBytes e.1),.int .i64 e.2]).flatten:=by
  refine of_pieces 2 (by decide) _ cs ?_ (by rw[hlen];rfl) ?_
  ·intro l hl;obtain⟨e,_,rfl⟩:=List.mem_map.1 hl;rfl
  ·intro i hi;rw[List.length_map] at hi;have hi14:i<8:=hi;have he:=hel i hi14;rw[cellsHd] at he;obtain⟨q,hq⟩:=fst_at hx.1 i _ (by rw[List.getElem?_map,List.getElem?_eq_getElem hi];rfl)
   rw[hq] at he;rw[hd_of he,List.getElem_map]
 rw[key]
 rfl
end
end Go.Proofs.YtoimgcjbcbhclaaGreatDoor
namespace Go.Proofs.YtoimgcjbcbhclaaGreatDoor
open Go.RowKit
abbrev SRow (B:Nat)(w:World)(v:Value)(l:List ByteArray):Prop:=w.ownsRow B 9 1 v l.length (l.map Value.string)
theorem info9:(Tryz.prog.info? 9).map (fun i=>(i.zero,i.size,i.bytes))=some (some (.string ByteArray.empty),1,16):=by kernel_rfl
theorem srow_form {w:World}{B e sz n:Nat}{v:Value}{xs:List Value}(h:w.ownsRow B e sz v n xs):∃ a cap,v=.slice a n cap:=by
 rcases h.2 with ⟨rfl,rfl⟩|⟨g,cap,cur,rfl,_⟩
 ·exact⟨none,0,rfl⟩
 ·exact⟨_,cap,rfl⟩
theorem srow_nil (B:Nat)(w:World):SRow B w (.slice none 0 0) []:=⟨rfl,Or.inl ⟨rfl,rfl⟩⟩
theorem srow_cell {B:Nat}{w:World}{v:Value}{l:List ByteArray}(h:SRow B w v l)(k:Nat)(hk:k<l.length):∃ g cap,v=.slice (some ⟨g,0,none⟩) l.length cap∧g<w.heap.size∧B≤g∧w.cell? ⟨g,k,none⟩=some (.string l[k]):=by
 obtain⟨g,cap,rfl,_,_⟩:=h.form (by omega)
 have h1:=own_lt h g rfl
 refine⟨g,cap,rfl,h1.1,h1.2,?_⟩
 rw[h.cellAt k (by omega)]
 simp[hk]
theorem srow_ones (l:List ByteArray):∀ u ∈ l.map Value.string,u.oneCell'=true:=by
 intro u hu
 obtain⟨p,_,rfl⟩:=List.mem_map.1 hu
 rfl
theorem hoCellsS (w:World)(s:ByteArray)(H:Nat)(h:w.heap.size=H):∀ j u,[Value.string s][j]? = some u→(w.alloc (.cells #[.string s] 9)).cell? ((⟨H,0,none⟩:Addr).add j)=some u:=by
 subst h
 intro j u hj
 match j with
 | 0=>
  simp only[List.getElem?_cons_zero,Option.some.injEq] at hj;subst hj
  show (w.alloc (.cells #[.string s] 9)).cell? ⟨w.heap.size,0+0,none⟩=_
  rw[cell_of (heap_new w (.cells #[.string s] 9))];rfl
 | n+1=>simp at hj
theorem hoOneS (s:ByteArray):∀ u ∈ [Value.string s],u.oneCell'=true:=by
 intro u hu
 rw[List.mem_singleton.1 hu]
 rfl
def hasB (l:List ByteArray)(s:ByteArray):Bool:=l.any (fun x=>decide (s=x))
section
variable {l:List ByteArray} {s:ByteArray}
include l s
theorem hasB_iff:hasB l s=true↔s ∈ l:=by simp[hasB]
theorem hasB_no:hasB l s=false↔s ∉ l:=by rw[←hasB_iff];simp
end
def addB (l:List ByteArray)(s:ByteArray):List ByteArray:=if hasB l s then l else l++[s]
def onceL (l:List ByteArray):List ByteArray:=l.foldl addB []
section
variable {B:Nat} (l:List ByteArray) (s:ByteArray) (v:Value) (w:World) (h:SRow B w v l) (hl:l.length≤100000)
include B l s v w h hl
open zrqg in
theorem index_any :
  Calls Tryz.prog 218 #[v,.string s] w fun e w'=>(∃ k:Int,e=.returned (.int .i64 k)∧decide (0≤k)=hasB l s)∧w'=w:=by
 obtain⟨va,vc,rfl⟩:=srow_form h
 have HR:=hide h
 clear h
 go_enter Tryz.func218,Tryz.ntmps218
 go_wp2_with fail
 go_loopw [8] (fun i wr=>∃ k:Nat,k≤l.length∧i=.int .i64 k∧s ∉ l.take k∧wr=w) (fun i _=>l.length - (intOf i).toNat)
 case atStart=>exact⟨0,Nat.zero_le _,rfl,by simp,rfl⟩
 case round=>
  obtain⟨k,hk,rfl,hns,rfl⟩:=hrel;have HNS:=hide hns;clear hns
  by_cases hlt:k<l.length
  ·exact zrdd
  ·have hkk:k=l.length:=by omega
   subst hkk;go_wp2_with fail;go_ret;refine⟨⟨-1,rfl,?_⟩,rfl⟩;have h:=unhide HNS;rw[List.take_length] at h;rw[hasB_no.2 h];rfl
theorem contains_any :
  Calls Tryz.prog 132 #[v,.string s] w fun e w'=>e=.returned (.bool (hasB l s))∧w'=w:=by
 have HC:=hide (index_any l s v w h hl)
 clear h
 go_enter Tryz.func132,Tryz.ntmps132
 go_wp2_with fail
 refine cm HC.out ?_
 rintro e w1 ⟨⟨k,rfl,hk⟩,rfl⟩
 have HK:=hide hk
 clear hk HC
 go_wp2_with fail
 go_ret
 exact⟨ret_bool HK.out,rfl⟩
end
theorem take_snoc' {α:Type}(l:List α)(k:Nat)(hk:k<l.length):l.take (k+1)=l.take k++[l[k]]:=List.take_succ_eq_append_getElem hk
theorem once_take (l:List ByteArray)(k:Nat)(hk:k<l.length):onceL (l.take (k+1))=addB (onceL (l.take k)) l[k]:=by
 rw[take_snoc' l k hk,onceL,List.foldl_append];rfl
theorem once_len (l:List ByteArray):(onceL l).length≤l.length:=by
 have:∀ (l acc:List ByteArray),(l.foldl addB acc).length≤acc.length+l.length:=by
  intro l
  induction l with
  | nil=>intro acc;simp
  | cons x l ih=>
   intro acc;have h:=ih (addB acc x);have h2:(addB acc x).length≤acc.length+1:=by unfold addB;split <;> simp
   simp only[List.foldl_cons,List.length_cons];omega
 simpa[onceL] using this l []
open zrqh in
theorem once_any {B:Nat}(l:List ByteArray)(v:Value)(w:World)(h:SRow B w v l)(hl:l.length≤90000) :
  Calls Tryz.prog 197 #[v] w fun e w'=>(∃ u,e=.returned u∧SRow w.heap.size w' u (onceL l))∧Below w.heap.size w w':=by
 obtain⟨i0,hi0,hz0,hz1,hz2⟩:=info_parts info9
 obtain⟨va,vc,rfl⟩:=srow_form h
 have HR:=hide h
 clear h
 go_enter Tryz.func197,Tryz.ntmps197
 go_wp2_with fail
 go_loopw [3,8] (fun o i wr=>∃ k:Nat,k≤l.length∧i=.int .i64 k∧SRow w.heap.size wr o (onceL (l.take k))∧Below w.heap.size w wr) (fun _ i _=>l.length - (intOf i).toNat)
 case atStart=>exact⟨0,Nat.zero_le _,rfl,srow_nil _ _,Below.refl _ _⟩
 case round=>
  obtain⟨k,hk,rfl,hown,hbel⟩:=hrel;have HOWN:=hide hown;have HBEL:=hide hbel;obtain⟨oa,oc,rfl⟩:=srow_form hown;clear hown hbel
  by_cases hlt:k<l.length
  ·exact zrdd
  ·have hkk:k=l.length:=by omega
   subst hkk;go_wp2_with fail;go_ret;refine⟨⟨_,rfl,?_⟩,HBEL.out⟩;exact zcbo
abbrev NTr (w:World)(t:Tr)(p:Nat):Prop:=NAt (fun _=>True) w t p
def NRow (B:Nat)(w:World)(v:Value)(ts:List Tr):Prop:=∃ ps:List Nat,w.ownsRow B 22 1 v ps.length (ps.map nPtr)∧NLs (fun _=>True) w ts ps
theorem Below.stay {I:Nat→Prop}{w w':World}(h:Below w.heap.size w w'):Stay I w w':=fun b _ hl=>h.block b hl
theorem NAt.nt {I:Nat→Prop}{w:World}{t:Tr}{p:Nat}(h:NAt I w t p):NTr w t p:=NAt.mono (fun _ _ _=>trivial) _ _ h
theorem NTr.later {w w':World}{t:Tr}{p:Nat}(h:NTr w t p)(hb:Below w.heap.size w w'):NTr w' t p:=NAt.later (Below.stay hb) _ _ h
theorem NRow.later {B:Nat}{w w':World}{v:Value}{ts:List Tr}(h:NRow B w v ts)(hb:Below w.heap.size w w'):NRow B w' v ts:=by
 obtain⟨ps,h1,h2⟩:=h
 exact⟨ps,owns_stay (I:=fun _=>True) (Below.stay hb) (fun _ _=>trivial) h1,NLs.later (Below.stay hb) _ _ h2⟩
theorem SRow.later {B:Nat}{w w':World}{v:Value}{l:List ByteArray}(h:SRow B w v l)(hb:Below w.heap.size w w'):SRow B w' v l:=owns_stay (I:=fun _=>True) (Below.stay hb) (fun _ _=>trivial) h
theorem NRow.form {B:Nat}{w:World}{v:Value}{ts:List Tr}(h:NRow B w v ts):∃ a cap,v=.slice a ts.length cap:=by
 obtain⟨ps,h1,h2⟩:=h
 rw[←NLs.length _ _ h2]
 exact row_shut h1
theorem NRow.nil (B:Nat)(w:World):NRow B w (.slice none 0 0) []:=⟨[],⟨rfl,Or.inl ⟨rfl,rfl⟩⟩,NLs.nil⟩
section
variable {B:Nat} {w:World} {v:Value} {ts:List Tr} (h:NRow B w v ts)
include B w v ts h
theorem NRow.cell (k:Nat)(hk:k<ts.length):∃ g cap p,v=.slice (some ⟨g,0,none⟩) ts.length cap∧g<w.heap.size∧w.cell? ⟨g,k,none⟩=some (nPtr p)∧NTr w ts[k] p:=by
 obtain⟨ps,h1,h2⟩:=h
 have hl:=NLs.length _ _ h2
 obtain⟨g,cap,rfl,hc⟩:=row_open h1 (by omega)
 obtain⟨hp,hn⟩:=NLs.get _ _ h2 k hk
 exact⟨g,cap,ps[k],by rw[hl],(own_lt h1 g rfl).1,hc k hp,hn⟩
theorem NRow.own (g:Nat)(hg:v.ownBlock=some g):g<w.heap.size∧B≤g:=by
 obtain⟨ps,h1,h2⟩:=h
 exact own_lt h1 g hg
end
theorem NTr.cells {w:World}{t:Tr}{p:Nat}(h:NTr w t p):p<w.heap.size∧w.cell? ⟨p,0,none⟩=some (.int .i64 t.kd)∧w.cell? ⟨p,1,none⟩=some (.string t.tx)∧∃ u,w.cell? ⟨p,3,none⟩=some u∧NRow 0 w u t.kids:=by
 obtain⟨u,ps,hb,hr,_,hk⟩:=NAt.opens2 h
 obtain⟨c0,c1,_,c3,_⟩:=node_cells hb
 exact⟨lt_of_heap hb,c0,c1,u,c3,ps,hr,NAts.nl _ _ hk⟩
theorem one_cellsP (w:World)(q:Nat)(H:Nat)(h:w.heap.size=H):∀ j u,[nPtr q][j]? = some u→(w.alloc (.cells #[nPtr q] 22)).cell? ((⟨H,0,none⟩:Addr).add j)=some u:=by
 subst h
 intro j u hj
 match j with
 | 0=>
  simp only[List.getElem?_cons_zero,Option.some.injEq] at hj;subst hj
  show (w.alloc (.cells #[nPtr q] 22)).cell? ⟨w.heap.size,0+0,none⟩=_
  rw[cell_of (heap_new w (.cells #[nPtr q] 22))];rfl
 | n+1=>simp at hj
theorem one_oneP (q:Nat):∀ u ∈ [nPtr q],u.oneCell'=true:=by
 intro u hu
 rw[List.mem_singleton.1 hu]
 rfl
theorem texts_any {B:Nat}(ts:List Tr)(v:Value)(w:World)(h:NRow B w v ts)(hl:ts.length≤90000) :
  Calls Tryz.prog 195 #[v] w fun e w'=>(∃ u,e=.returned u∧SRow w.heap.size w' u (ts.map Tr.tx))∧Below w.heap.size w w':=by
 obtain⟨i0,hi0,hz0,hz1,hz2⟩:=info_parts info9
 obtain⟨va,vc,rfl⟩:=h.form
 have HR:=hide h
 clear h
 go_enter Tryz.func195,Tryz.ntmps195
 exact zbav
theorem kids_any (t:Tr)(p:Nat)(w:World)(h:NTr w t p):Calls Tryz.prog 257 #[nPtr p] w fun e w'=>(∃ u,e=.returned u∧NRow 0 w u t.kids)∧w'=w:=by
 obtain⟨hpl,_,_,u,c3,hr⟩:=h.cells
 obtain⟨ua,uc,rfl⟩:=hr.form
 have HR:=hide hr
 clear hr h
 go_enter Tryz.func257,Tryz.ntmps257
 go_wp2_with fail
 go_ret
 exact⟨⟨_,rfl,HR.out⟩,rfl⟩
abbrev fnV (F:Nat):Value:=.func (.func F) #[] #[]
theorem kidsThat_any (F:Nat)(f:Tr→Bool)(hen:∀ args W,(callFunc F args).run Tryz.prog W=.ok (.enter F args) W)
  (hF:∀ t p W,NTr W t p→Calls Tryz.prog F #[nPtr p] W fun e w'=>e=.returned (.bool (f t))∧w'=W)
  (t:Tr) (p:Nat) (w:World) (h:NTr w t p) (hl:t.kids.length≤90000) :
  Calls Tryz.prog 214 #[nPtr p,fnV F] w fun e w'=>(∃ u,e=.returned u∧NRow w.heap.size w' u (t.kids.filter f))∧Below w.heap.size w w':=by
 obtain⟨i0,hi0,hz0,hz1,hz2⟩:=info_parts info22
 have HK:=hide (kids_any t p w h)
 have HF:=hide hF
 clear h hF
 generalize hts:t.kids=ts at HK hl
 clear hts t
 go_enter Tryz.func214,Tryz.ntmps214
 go_wp2_with fail
 refine cm HK.out ?_
 rintro e w1 ⟨⟨u,rfl,hr⟩,rfl⟩
 obtain⟨va,vc,rfl⟩:=hr.form
 have HR:=hide hr
 clear HK hr
 go_wp2_with fail
 go_loopw [5,11] (fun o i wr=>∃ (k:Nat) (qs:List Nat),k≤ts.length∧i=.int .i64 k∧wr.ownsRow w1.heap.size 22 1 o qs.length (qs.map nPtr)∧NLs (fun _=>True) w1 ((ts.take k).filter f) qs∧Below w1.heap.size w1 wr) (fun _ i _=>ts.length - (intOf i).toNat)
 case atStart=>exact⟨0,[],Nat.zero_le _,rfl,⟨rfl,Or.inl ⟨rfl,rfl⟩⟩,NLs.nil,Below.refl _ _⟩
 case round=>
  obtain⟨k,qs,hk,rfl,hown,hns,hbel⟩:=hrel;have HO:=hide hown;have HNS:=hide hns;have HBEL:=hide hbel;obtain⟨oa,oc,rfl⟩:=row_shut hown;have hql:=NLs.length _ _ hns;clear hown hbel hns
  by_cases hlt:k<ts.length
  ·obtain⟨g,cap,q,hv,hg,hc0,hn0⟩:=HR.out.cell k hlt;simp only[Value.slice.injEq] at hv;obtain⟨rfl,_,rfl⟩:=hv
   have hc:wr.cell? ⟨g,k,none⟩=some (nPtr q):=by rw[HBEL.out.cell (p:=⟨g,k,none⟩) hg];exact hc0
   have hki:(k:Int)<(ts.length:Int):=by omega
   have hsz:=HBEL.out.size;have HC:=hide (unhide HF ts[k] q wr (hn0.later HBEL.out));have HN:=hide hn0;have HTK:=hide (List.take_succ_eq_append_getElem hlt);have hgr:g<wr.heap.size:=by omega
   have hLl:qs.length≤k:=by rw[hql];have:=List.length_filter_le f (ts.take k);rw[List.length_take] at this;omega
   have HOL:=hide (own_lt HO.out);clear hn0 hc0 hql
   cases hh:f ts[k] with
   | true=>
    rw[hh] at HC;have HH:=hide hh;clear hh;go_wp2_with fail;refine cm HC.out ?_;rintro e w2 ⟨rfl,rfl⟩;clear HC
    go_wp2_with (at_builtin;refine wpList_append_lies _ rfl _ _ 46 rfl w1.heap.size 22 i0 (.pointer none) 1 8 Tryz.underlying46 hi0 hz0 hz1 hz2 rfl (by decide) _ _ _ rfl (HO.out.alloc _) ⟨w2.heap.size,0,none⟩ 1 1 [nPtr q] rfl rfl (one_cellsP w2 q _ rfl) (one_oneP q) (by decide) (by unfold maxLen;omega) (by omega) (by simp;omega) (w2.heap.size+1) (by simp) ?_)
    intro g' cap' w3 hown' hgrow hg' _;have HB3:=hide (HBEL.out.trans (((Below.refl w1.heap.size w2).alloc hsz (.cells #[nPtr q] 22)).grown hgrow (by simp;omega) (fun b hb=>(unhide HOL b hb).2)))
    have HO3:=hide hown';clear hown' hgrow hg';go_wp2_with fail
    go_roundw
    case rel=>
     refine⟨k+1,qs++[q],by omega,by go_num,?_,?_,HB3.out⟩
     ·rw[List.length_append,List.map_append];exact unhide HO3
     ·rw[HTK.out,List.filter_append];simp only[List.filter_cons,HH.out,List.filter_nil,if_true];exact NLs.append (NLs.cons HN.out NLs.nil) _ _ HNS.out
    case measure=>simp[intOf];omega
   | false=>
    rw[hh] at HC;have HH:=hide hh;clear hh;go_wp2_with fail;refine cm HC.out ?_;rintro e w2 ⟨rfl,rfl⟩;clear HC;go_wp2_with fail
    go_roundw
    case rel=>
     refine⟨k+1,qs,by omega,by go_num,HO.out,?_,HBEL.out⟩;rw[HTK.out,List.filter_append];simp only[List.filter_cons,HH.out,List.filter_nil,Bool.false_eq_true,if_false,List.append_nil];exact unhide HNS
    case measure=>simp[intOf];omega
  ·have hkk:k=ts.length:=by omega
   subst hkk;go_wp2_with fail;go_ret;have h:=unhide HNS;rw[List.take_length] at h;exact⟨⟨_,rfl,qs,HO.out,NLs.later (Below.stay HBEL.out) _ _ h⟩,HBEL.out⟩
theorem en69:∀ args W,(callFunc 258 args).run Tryz.prog W=.ok (.enter 258 args) W:=fun _ _=>by kernel_rfl
theorem en71:∀ args W,(callFunc 215 args).run Tryz.prog W=.ok (.enter 215 args) W:=fun _ _=>by kernel_rfl
def isFnT (t:Tr):Bool:=t.kd==5
def isLetT (t:Tr):Bool:=t.kd==3||t.kd==4
def isFunT (t:Tr):Bool:=t.kd==5||t.kd==37
section
variable (t:Tr) (p:Nat) (w:World) (h:NTr w t p)
include t p w h
theorem funcs1_any:Calls Tryz.prog 258 #[nPtr p] w fun e w'=>e=.returned (.bool (isFnT t))∧w'=w:=by
 obtain⟨hpl,c0,_,_⟩:=h.cells
 clear h
 go_enter Tryz.func258,Tryz.ntmps258
 go_wp2_with fail
 go_ret
 exact⟨rfl,rfl⟩
theorem lets1_any:Calls Tryz.prog 215 #[nPtr p] w fun e w'=>e=.returned (.bool (isLetT t))∧w'=w:=by
 obtain⟨hpl,c0,_,_⟩:=h.cells
 clear h
 unfold isLetT
 generalize t.kd=kd at c0
 cases h3:(kd==3)
 all_goals
  go_enter Tryz.func215,Tryz.ntmps215;go_wp2_with fail;go_ret;exact⟨rfl,rfl⟩
theorem isFun_any:Calls Tryz.prog 256 #[nPtr p] w fun e w'=>e=.returned (.bool (isFunT t))∧w'=w:=by
 obtain⟨hpl,c0,_,_⟩:=h.cells
 clear h
 unfold isFunT
 generalize t.kd=kd at c0
 cases h3:(kd==5)
 all_goals
  go_enter Tryz.func256,Tryz.ntmps256;go_wp2_with fail;go_ret;exact⟨rfl,rfl⟩
end
def fnsT (t:Tr):List Tr:=t.kids.filter isFnT
def letsT (t:Tr):List Tr:=t.kids.filter isLetT
section
variable (t:Tr) (p:Nat) (w:World) (h:NTr w t p) (hl:t.kids.length≤90000)
include t p w h hl
theorem funcs_any :
  Calls Tryz.prog 196 #[nPtr p] w fun e w'=>(∃ u,e=.returned u∧NRow w.heap.size w' u (fnsT t))∧Below w.heap.size w w':=by
 have HC:=hide (kidsThat_any 258 isFnT en69 funcs1_any t p w h hl)
 clear h
 go_enter Tryz.func196,Tryz.ntmps196
 exact zbfa
theorem lets_any :
  Calls Tryz.prog 126 #[nPtr p] w fun e w'=>(∃ u,e=.returned u∧NRow w.heap.size w' u (letsT t))∧Below w.heap.size w w':=by
 have HC:=hide (kidsThat_any 215 isLetT en71 lets1_any t p w h hl)
 clear h
 go_enter Tryz.func126,Tryz.ntmps126
 exact zbfa
end
inductive Ad where
 | mk (p:Nat) (kd:Int) (tx:ByteArray) (n:Int) (ks:List Ad)
def Ad.p:Ad→Nat | .mk p _ _ _ _=>p
def Ad.kd:Ad→Int | .mk _ kd _ _ _=>kd
def Ad.tx:Ad→ByteArray | .mk _ _ tx _ _=>tx
def Ad.ks:Ad→List Ad | .mk _ _ _ _ ks=>ks
mutual
def Ad.tr:Ad→Tr
 | .mk _ kd tx n ks=>.mk kd tx n (Ad.trs ks)
def Ad.trs:List Ad→List Tr
 | []=>[]
 | a::es=>a.tr::Ad.trs es
end
mutual
def Ad.ads:Ad→List Nat
 | .mk p _ _ _ ks=>p::Ad.adss ks
def Ad.adss:List Ad→List Nat
 | []=>[]
 | a::es=>a.ads++Ad.adss es
end
mutual
def AAt (I:Nat→Prop)(w:World):Ad→Prop
 | .mk p kd tx n ks=>NAt I w (.mk kd tx n (Ad.trs ks)) p∧I p∧(∃ v,w.heap[p]? = some (nodeObj kd tx n v)∧KRow I w v (ks.map Ad.p))∧AAts I w ks
def AAts (I:Nat→Prop)(w:World):List Ad→Prop
 | []=>True
 | a::es=>AAt I w a∧AAts I w es
end
theorem AAts.mem {I:Nat→Prop}{w:World}:∀ (es:List Ad),AAts I w es→∀ a ∈ es,AAt I w a
 | [],_,_,h=>absurd h (by simp)
 | x::es,h,a,ha=>by
  rw[AAts] at h
  rcases List.mem_cons.1 ha with rfl|ha
  ·exact h.1
  ·exact AAts.mem es h.2 a ha
mutual
theorem AAt.later {I:Nat→Prop}{w w':World}(hs:Stay I w w'):∀ a:Ad,AAt I w a→AAt I w' a
 | .mk p kd tx n ks,h=>by
  rw[AAt] at h ⊢;obtain⟨hn,hp,⟨v,hb,hr⟩,hk⟩:=h;exact⟨NAt.later hs _ _ hn,hp,⟨v,by rw[hs p hp (lt_of_heap hb)];exact hb,owns_stay hs hr.2 hr.1,hr.2⟩,AAts.later hs ks hk⟩
theorem AAts.later {I:Nat→Prop}{w w':World}(hs:Stay I w w'):∀ es:List Ad,AAts I w es→AAts I w' es
 | [],_=>by rw[AAts];trivial
 | a::es,h=>by
  rw[AAts] at h ⊢;exact⟨AAt.later hs a h.1,AAts.later hs es h.2⟩
end
mutual
theorem AAt.mono {I J:Nat→Prop}{w:World}(hJ:∀ b,I b→b<w.heap.size→J b):∀ a:Ad,AAt I w a→AAt J w a
 | .mk p kd tx n ks,h=>by
  rw[AAt] at h ⊢;obtain⟨hn,hp,⟨v,hb,hr⟩,hk⟩:=h;exact⟨NAt.mono hJ _ _ hn,hJ p hp (lt_of_heap hb),⟨v,hb,hr.1,fun g hg=>hJ g (hr.2 g hg) (own_lt hr.1 g hg).1⟩,AAts.mono hJ ks hk⟩
theorem AAts.mono {I J:Nat→Prop}{w:World}(hJ:∀ b,I b→b<w.heap.size→J b):∀ es:List Ad,AAts I w es→AAts J w es
 | [],_=>by rw[AAts];trivial
 | a::es,h=>by
  rw[AAts] at h ⊢;exact⟨AAt.mono hJ a h.1,AAts.mono hJ es h.2⟩
end
theorem trs_map:∀ es:List Ad,Ad.trs es=es.map Ad.tr
 | []=>by rw[Ad.trs];rfl
 | a::es=>by rw[Ad.trs,trs_map es];rfl
theorem Ad.tr_eq (a:Ad):a.tr.kd=a.kd∧a.tr.tx=a.tx∧a.tr.kids=a.ks.map Ad.tr:=by
 cases a with
 | mk p kd tx n ks=>rw[Ad.tr,trs_map];exact⟨rfl,rfl,rfl⟩
theorem AAt.parts {I:Nat→Prop}{w:World}{a:Ad}(h:AAt I w a):∀ k ∈ a.ks,AAt I w k:=by
 cases a with
 | mk p kd tx n ks=>rw[AAt] at h;exact AAts.mem ks h.2.2.2
mutual
theorem NAt.ad {I:Nat→Prop}{w:World}:∀ (t:Tr) (p:Nat),NAt I w t p→∃ a:Ad,a.tr=t∧a.p=p∧AAt I w a∧a.ads.Nodup∧∀ b ∈ a.ads,I b
 | .mk kd tx n ks,p,h=>by
  have hn:=h;rw[NAt] at h;obtain⟨hp,v,ps,hb,hr,hk⟩:=h;obtain⟨es,h1,h2,h3,h4,h5⟩:=NAts.ads ks ps hk;refine⟨.mk p kd tx n es,by rw[Ad.tr,trs_map,h1],rfl,?_,?_,?_⟩
  ·rw[AAt,h2,trs_map,h1];exact⟨hn,hp,⟨v,hb,hr⟩,AAts.mono (fun b hb _=>hb.1) es h3⟩
  ·rw[Ad.ads,List.nodup_cons];exact⟨fun hm=>(h5 p hm).2 rfl,h4⟩
  ·rw[Ad.ads];intro b hb
   rcases List.mem_cons.1 hb with rfl|hb
   ·exact hp
   ·exact(h5 b hb).1
theorem NAts.ads {I:Nat→Prop}{w:World}:∀ (ts:List Tr) (ps:List Nat),NAts I w ts ps→∃ es:List Ad,es.map Ad.tr=ts∧es.map Ad.p=ps∧AAts I w es∧(Ad.adss es).Nodup∧∀ b ∈ Ad.adss es,I b
 | [],ps,h=>by
  rw[NAts] at h;subst h;exact⟨[],rfl,rfl,by rw[AAts];trivial,by rw[Ad.adss];exact List.nodup_nil,by rw[Ad.adss];intro b hb;cases hb⟩
 | t::ts,ps,h=>by
  rw[NAts] at h;obtain⟨p,ps',M,rfl,h1,h2⟩:=h;obtain⟨a,a1,a2,a3,a4,a5⟩:=NAt.ad t p h1;obtain⟨es,b1,b2,b3,b4,b5⟩:=NAts.ads ts ps' h2
  refine⟨a::es,by rw[List.map_cons,a1,b1],by rw[List.map_cons,a2,b2],?_,?_,?_⟩
  ·rw[AAts];exact⟨AAt.mono (fun b hb _=>hb.1) a a3,AAts.mono (fun b hb _=>hb.1) es b3⟩
  ·rw[Ad.adss,List.nodup_append];refine⟨a4,b4,fun x hx y hy e=>?_⟩;have h8:=(a5 x hx).2;have h9:=(b5 y hy).2;omega
  ·rw[Ad.adss];intro b hb
   rcases List.mem_append.1 hb with hb|hb
   ·exact(a5 b hb).1
   ·exact(b5 b hb).1
end
section
variable {I:Nat→Prop} {w:World} {a:Ad} (h:AAt I w a)
include I w a h
theorem AAt.cells:I a.p∧a.p<w.heap.size∧w.cell? ⟨a.p,0,none⟩=some (.int .i64 a.kd)∧w.cell? ⟨a.p,1,none⟩=some (.string a.tx) ∧
  ∃ v,w.cell? ⟨a.p,3,none⟩=some v∧KRow I w v (a.ks.map Ad.p):=by
 cases a with
 | mk p kd tx n ks=>
  rw[AAt] at h;obtain⟨_,hp,⟨v,hb,hr⟩,_⟩:=h;obtain⟨c0,c1,_,c3,_⟩:=node_cells hb;exact⟨hp,lt_of_heap hb,c0,c1,v,c3,hr⟩
theorem AAt.nat:NAt I w a.tr a.p:=by
 cases a with
 | mk p kd tx n ks=>rw[AAt] at h;rw[Ad.tr];exact h.1
end
mutual
def Ad.cnt:Ad→Nat
 | .mk _ _ _ _ ks=>1+Ad.cnts ks
def Ad.cnts:List Ad→Nat
 | []=>0
 | a::es=>a.cnt+Ad.cnts es
end
mutual
theorem Ad.cnt_tr:∀ a:Ad,a.tr.count=a.cnt
 | .mk p kd tx n ks=>by rw[Ad.tr,count_mk,Ad.cnt,Ad.cnts_tr ks]
theorem Ad.cnts_tr:∀ es:List Ad,Tr.counts (Ad.trs es)=Ad.cnts es
 | []=>by rw[Ad.trs,Ad.cnts,counts_nil]
 | a::es=>by rw[Ad.trs,counts_cons,Ad.cnts,Ad.cnt_tr a,Ad.cnts_tr es]
end
mutual
theorem Ad.ads_len:∀ a:Ad,a.ads.length=a.cnt
 | .mk p kd tx n ks=>by rw[Ad.ads,List.length_cons,Ad.adss_len ks,Ad.cnt,Nat.add_comm]
theorem Ad.adss_len:∀ es:List Ad,(Ad.adss es).length=Ad.cnts es
 | []=>by rw[Ad.adss,Ad.cnts];rfl
 | a::es=>by rw[Ad.adss,List.length_append,Ad.ads_len a,Ad.adss_len es,Ad.cnts]
end
theorem adss_app:∀ a b:List Ad,Ad.adss (a++b)=Ad.adss a++Ad.adss b
 | [],b=>by rw[Ad.adss];rfl
 | x::a,b=>by rw[List.cons_append,Ad.adss,Ad.adss,adss_app a b,List.append_assoc]
theorem cnts_app:∀ a b:List Ad,Ad.cnts (a++b)=Ad.cnts a+Ad.cnts b
 | [],b=>by rw[Ad.cnts,List.nil_append,Nat.zero_add]
 | x::a,b=>by rw[List.cons_append,Ad.cnts,Ad.cnts,cnts_app a b,Nat.add_assoc]
theorem cnt_pos (a:Ad):1≤a.cnt:=by cases a with|mk p kd tx n ks=>rw[Ad.cnt];omega
theorem cnts_len:∀ es:List Ad,es.length≤Ad.cnts es
 | []=>Nat.zero_le _
 | a::es=>by
  have h1:=cnt_pos a;have h2:=cnts_len es;rw[Ad.cnts,List.length_cons];omega
theorem cnts_mem:∀ (es:List Ad) (a:Ad),a ∈ es→a.cnt≤Ad.cnts es
 | [],_,h=>absurd h (by simp)
 | x::es,a,h=>by
  rw[Ad.cnts]
  rcases List.mem_cons.1 h with rfl|h
  ·omega
  ·have:=cnts_mem es a h;omega
theorem cnt_eq (a:Ad):a.cnt=1+Ad.cnts a.ks:=by cases a with|mk p kd tx n ks=>rw[Ad.cnt];rfl
theorem ads_eq (a:Ad):a.ads=a.p::Ad.adss a.ks:=by cases a with|mk p kd tx n ks=>rw[Ad.ads];rfl
end Go.Proofs.YtoimgcjbcbhclaaGreatDoor
