/-
  Where a function's statements stand: all ways.
-/
import Derived.Test.YtoimgcjbcbhclaaGreatDoorWt27
set_option maxRecDepth 100000
set_option maxHeartbeats 16000000
namespace Go.Proofs.YtoimgcjbcbhclaaGreatDoor
open Go.RowKit
theorem fn_core (w:World)(p tb mb no q0 q1:Nat)(kd:Int)(tx:ByteArray)(st sb ev:Bool)(P N:List ByteArray)(oa:Option Addr)(hk:kd=5∨kd=37)(h:FnK w p tb mb no kd tx q0 q1 sb ev P N) :
  Calls Tryz.prog 128 #[sPtr tb,nPtr p,plV2 (.pointer oa) st] w (FnPost w oa no kd tx (st||sb) (!(st||sb)&&ev) ((P++[tArguments])++N)):=by
 rcases hk with rfl|rfl
 ·
  cases st with
  | true=>exact fn5t w p tb mb no q0 q1 tx sb ev P N oa h
  | false=>
   cases sb with
   | true=>exact fn5ft w p tb mb no q0 q1 tx ev P N oa h
   | false=>exact fn5ff w p tb mb no q0 q1 tx ev P N oa h
 ·
  cases st with
  | true=>exact fn37t w p tb mb no q0 q1 tx sb ev P N oa h
  | false=>
   cases sb with
   | true=>exact fn37ft w p tb mb no q0 q1 tx ev P N oa h
   | false=>exact fn37ff w p tb mb no q0 q1 tx ev P N oa h
theorem names_len (t:Tr)(b:Bool)(h:t.count≤20000):(namesT t b).length≤70000:=by
 unfold namesT
 have h1:=once_len ((if b then varsT t else [])++(fnsT t).map Tr.tx++(letsT t).map Tr.tx)
 have h2:=fns_len t
 have h3:=lets_len t
 have h4:=vars_len t
 have h5:=counts_len t.kids
 have h6:=count_kids t
 have h7:(if b then varsT t else []).length≤Tr.counts t.kids:=by
  split
  ·exact h4
  ·exact Nat.zero_le _
 simp only[List.length_append,List.length_map] at h1
 omega
theorem nodup_part {a:Ad}(h:a.ads.Nodup):∀ k ∈ a.ks,k.ads.Nodup:=by
 intro k hk
 rw[ads_eq,List.nodup_cons] at h
 have key:∀ (l:List Ad),(Ad.adss l).Nodup→k ∈ l→k.ads.Nodup:=by
  intro l
  induction l with
  | nil=>intro _ hm;cases hm
  | cons x l ih=>
   intro hn hm;rw[Ad.adss,List.nodup_append] at hn
   rcases List.mem_cons.1 hm with rfl|hm
   ·exact hn.1
   ·exact ih hn.2.1 hm
 exact key a.ks h.2 hk
theorem TW.nodup {I:Nat→Prop}{tb mb:Nat}{A pre post:List Nat}{L:List Us}{w:World}{a:Ad}(h:TW I tb mb A L w)(hA:A=pre++(a.ads++post)):a.ads.Nodup:=by
 have h1:=h.nd
 rw[hA,List.nodup_append] at h1
 have h2:=h1.2.1
 rw[List.nodup_append] at h2
 exact h2.1
theorem fn_any (a pr bl:Ad)(ks:List Ad)(hks:a.ks=pr::bl::ks)(hkd:a.kd=5∨a.kd=37)(I:Nat→Prop)(tb mb:Nat)(A pre post:List Nat)(L:List Us)(v:Value)(ch:List Sc)(st:Bool)(w:World)
  (hA:A=pre++(a.ads++post)) (hW:TW I tb mb A L w) (hN:AAt I w a) (hi:a.tr.ill=0) (hC:Chn I w v ch) (hc:a.cnt≤20000) :
  Calls Tryz.prog 128 #[sPtr tb,nPtr a.p,plV2 v st] w fun e w'=>(∃ v',e=.returned (plV2 v' (st||strictT bl.tr))∧Chn (fun b=>I b∨(w.heap.size≤b∧b<w'.heap.size)) w' v' (fnSc a.tr pr.tr bl.tr pre.length ch st))∧Below w.heap.size w w':=by
 obtain⟨oa,rfl⟩:=hC.ptr
 have hpm:pr ∈ a.ks:=by rw[hks];simp
 have hbm:bl ∈ a.ks:=by rw[hks];simp
 have hP:=hN.parts pr hpm
 have hB:=hN.parts bl hbm
 obtain⟨_,_,c0,c1,_⟩:=hN.cells
 obtain⟨g,cap,c3,_,d0,d1,_⟩:=hN.two hks
 obtain⟨_,_,_,u,e3,hr⟩:=(NAt.nt hP.nat).cells
 obtain⟨ua,uc,rfl⟩:=hr.form
 have hcp:=cnts_mem a.ks pr hpm
 have hcb:=cnts_mem a.ks bl hbm
 have hca:=cnt_eq a
 have hct:=Ad.cnt_tr pr
 have hcb2:=Ad.cnt_tr bl
 have hpk:=count_kids pr.tr
 have hpl:=counts_len pr.tr.kids
 have hnl:=names_len bl.tr true (by omega)
 have hK:FnK w a.p tb mb pre.length a.kd a.tx pr.p bl.p (strictT bl.tr) (evalsT bl.tr) (pr.tr.kids.map Tr.tx) (namesT bl.tr true):=by
  refine⟨c0,c1,⟨g,_,cap,by omega,c3,d0,d1⟩,hW.word.1,fun X hX=>hW.num hA (Fm.of hX),fun X hX=>?_,⟨ua,uc,by rw[List.length_map];exact e3,fun X hX=>?_⟩,fun X hX=>?_,fun X hX=>?_,by rw[List.length_map];omega,hnl⟩
  ·exact strictE_any bl.tr bl.p X (NTr.later (NAt.nt hB.nat) hX)
  ·rw[List.length_map];exact wtexts_any pr.tr.kids _ X (NRow.later hr hX) (by omega)
  ·exact names_any bl.tr bl.p true X (NTr.later (NAt.nt hB.nat) hX) (by omega)
  ·exact evals_any bl X (AAt.later (I:=I) (fun b _ hl=>hX.block b hl) _ hB) (nodup_part (hW.nodup hA) bl hbm) (ill_parts hi bl hbm) (by omega)
 refine(fn_core w a.p tb mb pre.length pr.p bl.p a.kd a.tx st (strictT bl.tr) (evalsT bl.tr) _ _ oa hkd hK).mono ?_
 rintro e w' ⟨⟨b,nv,v2,rfl,hb1,hb2,hb3,hlam⟩,hbw⟩
 refine⟨⟨sPtr b,rfl,?_⟩,hbw⟩
 have hCw:Chn (fun b=>I b∨(w.heap.size≤b∧b<w'.heap.size)) w' (.pointer oa) ch:=Chn.later (fun b _ hl=>hbw.block b hl) _ _ (Chn.mono (fun b hb _=>Or.inl hb) _ _ hC)
 have hlow:∀ b',Value.pointer oa=sPtr b'→b'<w.heap.size:=by
  intro b' e
  rcases hC.form with h|⟨b2,h,hl⟩
  ·rw[h] at e;cases e
  ·rw[h] at e;cases e;exact hl
 obtain⟨t1,t2,_⟩:=a.tr_eq
 unfold fnSc
 rw[t1,t2]
 have hsz:=hbw.size
 refine⟨b,nv,v2,rfl,Or.inr ⟨hb1,lt_of_heap hb2⟩,hb2,owns_zero hb3,fun g hg=>Or.inr ⟨(own_lt hb3 g hg).2,(own_lt hb3 g hg).1⟩,?_,?_,?_⟩
 ·show ((List.map Tr.tx pr.tr.kids++[tArguments])++namesT bl.tr true).length≤100000
  simp only[List.length_append,List.length_map,List.length_cons,List.length_nil];omega
 ·intro b' e
  rcases hlam with ⟨_,rfl⟩|⟨_,b2,nv2,rfl,_,h2,_⟩
  ·have:=hlow b' e;omega
  ·
   cases e;exact h2
 ·rcases hlam with ⟨h1,rfl⟩|⟨h1,b2,nv2,rfl,h2,h3,h4,h5⟩
  ·rw[h1,if_neg (by decide)];exact hCw
  ·rw[h1,if_pos rfl];exact⟨b2,nv2,.pointer oa,rfl,Or.inr ⟨h2,lt_of_heap h4⟩,h4,owns_zero h5,fun g hg=>Or.inr ⟨(own_lt h5 g hg).2,(own_lt h5 g hg).1⟩,by simp,fun b' e=>by have:=hlow b' e;omega,hCw⟩
theorem info56:(Tryz.prog.info? 56).map (fun i=>(i.zero,i.size,i.bytes))=some (some (.agg #[.int .i64 0,.int .i64 0,.bool false]),3,24):=by kernel_rfl
theorem TW.push {I:Nat→Prop}{tb mb:Nat}{A:List Nat}{L:List Us}{w w3:World}{v:Value}{g cap n:Nat}{u:Us}(h:TW I tb mb A L w)(hv:w.heap[tb]? = some (.cells #[.map (some mb),v] 108 (0,0)))
  (hn:n=L.length+1) (hown:w3.ownsRow 0 56 3 (.slice (some ⟨g,0,none⟩) n cap) n (usCells (L++[u]))) (hgr:w.grownBy w3 v.ownBlock) (hg:v.ownBlock=some g∨w.heap.size≤g) :
  TW I tb mb A (L++[u]) (w3.setCell ⟨tb,1,none⟩ (.slice (some ⟨g,0,none⟩) n cap))∧Fm (fun b=>b<w.heap.size∧b≠tb∧v.ownBlock≠some b) w (w3.setCell ⟨tb,1,none⟩ (.slice (some ⟨g,0,none⟩) n cap)):=by
 obtain⟨⟨v',h1,h2,h3,h4⟩,h5,h6,h7,h8,h9⟩:=h
 have hvv:v'=v:=by rw[hv] at h1;simpa using h1.symm
 subst hvv
 subst hn
 have hset:∀ k,k≠tb→(w3.setCell ⟨tb,1,none⟩ (.slice (some ⟨g,0,none⟩) (L.length+1) cap)).heap[k]? = w3.heap[k]?:=fun k hk=>ne_set hk _
 have hst:∀ k,k<w.heap.size→k≠tb→v'.ownBlock≠some k→(w3.setCell ⟨tb,1,none⟩ (.slice (some ⟨g,0,none⟩) (L.length+1) cap)).heap[k]? = w.heap[k]?:=fun k a b c=>(hset k b).trans (hgr.block k a (fun e=>c e.symm))
 have htb:w3.heap[tb]? = some (.cells #[.map (some mb),v'] 108 (0,0)):=(hgr.block tb (lt_of_heap h1) (fun e=>h4 e.symm)).trans h1
 have hsz:w.heap.size≤(w3.setCell ⟨tb,1,none⟩ (.slice (some ⟨g,0,none⟩) (L.length+1) cap)).heap.size:=by simpa using hgr.size
 have hgt:g≠tb:=by
  rcases hg with hg|hg
  ·exact fun e=>h4 (by rw[hg,e])
  ·have:=lt_of_heap h1;omega
 have hfm:Fm (fun b=>b<w.heap.size∧b≠tb∧v'.ownBlock≠some b) w (w3.setCell ⟨tb,1,none⟩ (.slice (some ⟨g,0,none⟩) (L.length+1) cap)):=⟨hgr.os,hgr.tape,hgr.output,hsz,fun b hb _=>hst b hb.1 hb.2.1 hb.2.2⟩
 have hI:∀ b,I b→b<w.heap.size∧b≠tb∧v'.ownBlock≠some b:=fun b hb=>⟨(h7 b hb).1,(h7 b hb).2,h3 b hb⟩
 refine⟨⟨⟨.slice (some ⟨g,0,none⟩) (L.length+1) cap,by rw[heap_set htb];rfl,?_,fun b hb e=>?_,fun e=>?_⟩,?_,h6,fun b hb=>⟨Nat.lt_of_lt_of_le (h7 b hb).1 hsz,(h7 b hb).2⟩,fun p hp=>⟨(h8 p hp).1,Cl.fm hfm (hI p (h8 p hp).1) (h8 p hp).2⟩,h9⟩,hfm⟩
 ·exact zbga
 ·exact zbgv
 ·exact hgt (by simpa[Value.ownBlock] using e)
 ·rw[hst mb (lt_of_heap h5) (h7 mb h6).2 (h3 mb h6)];exact h5
theorem us_cells (w:World)(a b:Int)(c:Bool)(t:TypeId)(H:Nat)(h:w.heap.size=H):∀ j u,(usC (a,b,c))[j]? = some u→(w.alloc (.cells #[.int .i64 a,.int .i64 b,.bool c] t)).cell? ((⟨H,0,none⟩:Addr).add j)=some u:=by
 intro j u hj
 subst h
 have h0:∀ k,(w.alloc (.cells #[.int .i64 a,.int .i64 b,.bool c] t)).cell? ((⟨w.heap.size,0,none⟩:Addr).add k)=#[Value.int .i64 a,.int .i64 b,.bool c][k]?:=fun k=>by
  rw[Addr.add_mid,Nat.zero_add,cell_of (heap_new _ _)]
 rw[h0]
 match j,hj with
 | 0,hj=>simpa[usC] using hj
 | 1,hj=>simpa[usC] using hj
 | 2,hj=>simpa[usC] using hj
 | _+3,hj=>simp[usC] at hj
theorem us_one (u:Us):∀ x ∈ usC u,x.oneCell'=true:=by
 intro x hx
 simp only[usC,List.mem_cons,List.not_mem_nil,or_false] at hx
 rcases hx with rfl|rfl|rfl <;> rfl
open zrqei in
theorem tl23 (w:World)(p tb mb no:Nat)(oa:Option Addr)(st sb:Bool)(ka:Option Addr)(kn kc:Nat)(tx:ByteArray)(ow:Int)(su:Bool)(I:Nat→Prop)(A:List Nat)(L:List Us)(Q:World→Prop)(c0:w.cell? ⟨p,0,none⟩=some (.int .i64 23))(c1:w.cell? ⟨p,1,none⟩=some (.string tx))(c3:w.cell? ⟨p,3,none⟩=some (.slice ka kn kc))(hIp:I p)(hL:L.length≤20000)
  (hW:TW I tb mb A L w) (hnum:∀ X,Fm I w X→(Instr.lookup 44 (.map (some mb)) (nPtr p) false).run Tryz.prog X=.ok (.int .i64 (no:Int)) X)
  (hst:∀ X,Below w.heap.size w X→Calls Tryz.prog 118 #[nPtr p] X fun e w'=>e=.returned (.bool sb)∧w'=X)
  (hfi:∀ X,Below w.heap.size w X→Calls Tryz.prog 123 #[.pointer oa,.string tx] X fun e w'=>e=.returned (.tuple #[.int .i64 ow,.bool su])∧w'=X)
  (hta:∀ X,TW I tb mb A (L++[((no:Int),ow,su)]) X→Fm I w X→Calls Tryz.prog 127 #[sPtr tb,.slice ka kn kc,plV2 (.pointer oa) (st||sb)] X fun e w'=>e=.returned (.tuple #[])∧Q w') :
  Calls Tryz.prog 68 #[sPtr tb,nPtr p,plV2 (.pointer oa) st] w fun e w'=>e=.returned (.tuple #[])∧Q w':=by
 obtain⟨i0,hi0,hz0,hz1,hz2⟩:=info_parts info56
 have hpl:=cell_lt c0
 have hn3:=(hW.ne p hIp).2
 have HC3:=hide c3
 have HC1:=hide c1
 have HIP:=hide hIp
 have HW:=hide hW
 have HNUM:=hide hnum
 have HST:=hide hst
 have HFI:=hide hfi
 have HTA:=hide hta
 clear hst hta hfi c3 c1 hIp hW hnum
 exact zeaf
theorem info57:(Tryz.prog.info? 57).map (fun i=>(i.zero,i.size,i.bytes))=some (some (.agg #[.int .i64 0,.int .i64 0,.bool false]),3,24):=by kernel_rfl
theorem RgW.look {I:Nat→Prop}{nb mb ob fb:Nat}{A pre post:List Nat}{L:List Us}{w X:World}{a:Ad}(h:RgW I nb mb ob fb A L w)(hA:A=pre++(a.ads++post))(hX:Fm I w X) :
  (Instr.lookup 44 (.map (some mb)) (nPtr a.p) false).run Tryz.prog X=.ok (.int .i64 (pre.length:Int)) X:=by
 have hm:a.p ∈ A:=by rw[hA,ads_eq];simp
 have h1:=lookup_ptr mb A.length (nodL A) a.p X (by rw[hX.stay mb h.inb.2.1 (h.ne mb h.inb.2.1).1];exact h.map) (Cl.fm hX (h.cl _ hm).1 (h.cl _ hm).2) (fun e he=>Cl.fm hX (h.cl _ (nodL_mem he)).1 (h.cl _ (nodL_mem he)).2)
 exact zbgu
theorem RgW.push {I:Nat→Prop}{nb mb ob fb:Nat}{A:List Nat}{L:List Us}{w w3:World}{v:Value}{g cap n:Nat}{u:Us}(h:RgW I nb mb ob fb A L w)(hv:w.heap[ob]? = some (.cells #[v] 52 (0,0)))
  (hn:n=L.length+1) (hown:w3.ownsRow 0 57 3 (.slice (some ⟨g,0,none⟩) n cap) n (usCells (L++[u]))) (hgr:w.grownBy w3 v.ownBlock) (hg:v.ownBlock=some g∨w.heap.size≤g) :
  RgW I nb mb ob fb A (L++[u]) (w3.setCell ⟨ob,0,none⟩ (.slice (some ⟨g,0,none⟩) n cap))∧Fm I w (w3.setCell ⟨ob,0,none⟩ (.slice (some ⟨g,0,none⟩) n cap)):=by
 obtain⟨a1,a2,a3,⟨v',h1,h2,h3,h4⟩,h6,h7,h8,h9⟩:=h
 have hvv:v'=v:=by rw[hv] at h1;simpa using h1.symm
 subst hvv
 subst hn
 have hset:∀ k,k≠ob→(w3.setCell ⟨ob,0,none⟩ (.slice (some ⟨g,0,none⟩) (L.length+1) cap)).heap[k]? = w3.heap[k]?:=fun k hk=>ne_set hk _
 have hst:∀ k,k<w.heap.size→k≠ob→v'.ownBlock≠some k→(w3.setCell ⟨ob,0,none⟩ (.slice (some ⟨g,0,none⟩) (L.length+1) cap)).heap[k]? = w.heap[k]?:=fun k a b c=>(hset k b).trans (hgr.block k a (fun e=>c e.symm))
 have htb:w3.heap[ob]? = some (.cells #[v'] 52 (0,0)):=(hgr.block ob (lt_of_heap h1) (fun e=>h4 e.symm)).trans h1
 have hsz:w.heap.size≤(w3.setCell ⟨ob,0,none⟩ (.slice (some ⟨g,0,none⟩) (L.length+1) cap)).heap.size:=by simpa using hgr.size
 have hgt:g≠ob:=by
  rcases hg with hg|hg
  ·exact fun e=>h4 (by rw[hg,e])
  ·have:=lt_of_heap h1;omega
 have hI:∀ b,I b→b<w.heap.size∧b≠ob∧v'.ownBlock≠some b:=fun b hb=>⟨(h7 b hb).1,(h7 b hb).2,h3 b hb⟩
 have hfm:Fm I w (w3.setCell ⟨ob,0,none⟩ (.slice (some ⟨g,0,none⟩) (L.length+1) cap)):=⟨hgr.os,hgr.tape,hgr.output,hsz,fun b hb _=>hst b (hI b hb).1 (hI b hb).2.1 (hI b hb).2.2⟩
 have hk:∀ b,I b→(w3.setCell ⟨ob,0,none⟩ (.slice (some ⟨g,0,none⟩) (L.length+1) cap)).heap[b]? = w.heap[b]?:=fun b hb=>hst b (hI b hb).1 (hI b hb).2.1 (hI b hb).2.2
 refine⟨⟨(hk nb h6.1).trans a1,(hk mb h6.2.1).trans a2,(hk fb h6.2.2).trans a3,⟨.slice (some ⟨g,0,none⟩) (L.length+1) cap,by rw[heap_set htb];rfl,?_,fun b hb e=>?_,fun e=>?_⟩,h6,fun b hb=>⟨Nat.lt_of_lt_of_le (h7 b hb).1 hsz,(h7 b hb).2⟩,fun p hp=>⟨(h8 p hp).1,Cl.fm hfm (h8 p hp).1 (h8 p hp).2⟩,h9⟩,hfm⟩
 ·exact zbga
 ·exact zbgv
 ·exact hgt (by simpa[Value.ownBlock] using e)
theorem find_last (l:List Sc)(c:Sc)(s:ByteArray)(b:Bool):findS (l++[c]).reverse s b=if hasB c.nms s then (c.own,b) else findS l.reverse s (b && !c.opn):=by
 rw[List.reverse_append]
 rfl
theorem us_one_more (L:List Us)(u:Us):usCells L++usC u=usCells (L++[u]):=by
 rw[usCells_app]
 congr 1
theorem three_set (a b c:Value)(t:TypeId)(x:Value){w:World}{u:Nat}(h:w.heap[u]? = some (.cells #[a,b,c] t (0,0))):((w.setCell ⟨u,1,none⟩ x).heap[u]? = some (.cells #[a,x,c] t (0,0)))∧((w.setCell ⟨u,2,none⟩ x).heap[u]? = some (.cells #[a,b,x] t (0,0))):=by
 constructor <;> rw[heap_set h] <;> rfl
open zrqej in
theorem rl23 (w:World)(p nb mb ob fb no:Nat)(v:Value)(ps:List (Value × Sc))(st:Bool)(tx:ByteArray)(I:Nat→Prop)(A:List Nat)(L:List Us)(c0:w.cell? ⟨p,0,none⟩=some (.int .i64 23))(c1:w.cell? ⟨p,1,none⟩=some (.string tx))(hW:RgW I nb mb ob fb A L w)
  (hnum:∀ X,Fm I w X→(Instr.lookup 44 (.map (some mb)) (nPtr p) false).run Tryz.prog X=.ok (.int .i64 (no:Int)) X) (hR:RR I w v ps) (hp0:0<ps.length) (hpl:ps.length≤20000) (hL:L.length≤20000) :
  Calls Tryz.prog 70 #[nPtr p,v,.bool st,sPtr nb,sPtr ob,sPtr fb] w fun e w'=>e=.returned (.tuple #[]) ∧
   RgW I nb mb ob fb A (L++[((no:Int),(findS ((ps.map Prod.snd).reverse) tx true).1,(findS ((ps.map Prod.snd).reverse) tx true).2)]) w'∧Fm I w w':=by
 obtain⟨i0,hi0,hz0,hz1,hz2⟩:=info_parts info57
 have hpb:=cell_lt c0
 obtain⟨g,cap,hvf,_,_⟩:=hR.1.form hp0
 subst hvf
 exact zrdp
theorem en70:∀ args W,(callFunc 70 args).run Tryz.prog W=.ok (.enter 70 args) W:=fun _ _=>by kernel_rfl
theorem cnts_mem3 {x:Ad}:∀ {es:List Ad},x ∈ es→x.cnt≤Ad.cnts es
 | [],h=>by cases h
 | e::es,h=>by
  rw[Ad.cnts]
  rcases List.mem_cons.1 h with rfl|h
  ·omega
  ·have:=cnts_mem3 h;omega
structure KL (m:Nat)(J:Nat→Prop)(nb mb ob fb rb:Nat)(A pre post:List Nat)(L:List Us)(v:Value)(ps:List (Value × Sc))(es:List Ad)(ka:Option Addr)(kc:Nat)(w2:World):Prop where
 wk:WalkC m
 ad:A=pre++(Ad.adss es++post)
 rw:RgW J nb mb ob fb A L w2
 box:w2.heap[rb]? = some (.cells #[v] 114 (0,0))∧J rb
 rr:RR J w2 v ps
 kn:∀ k ∈ es,k.cnt≤m∧AAt J w2 k∧k.tr.ill=0∧WS k.tr
 row:w2.ownsRow 0 22 1 (.slice ka es.length kc) (es.map Ad.p).length ((es.map Ad.p).map nPtr)
 rj:∀ g,(Value.slice ka es.length kc).ownBlock=some g→J g
 pos:0<ps.length
 len:ps.length+Ad.cnts es≤20000∧L.length+Ad.cnts es≤20000
theorem KL.step {m:Nat}{J:Nat→Prop}{nb mb ob fb rb:Nat}{A pre post:List Nat}{L:List Us}{v:Value}{ps:List (Value × Sc)}{es:List Ad}{ka:Option Addr}{kc:Nat}{w2 wr:World}(h:KL m J nb mb ob fb rb A pre post L v ps es ka kc w2)(st:Bool){k:Nat}(hlt:k<es.length)
  (hg:RgW J nb mb ob fb A (L++tls (rl m) ((es.take k).map Ad.tr) pre.length ((ps.map Prod.snd).reverse) st) wr) (hf:Fm J w2 wr) :
  ∃ g q,ka=some ⟨g,0,none⟩∧g<wr.heap.size∧wr.cell? ⟨g,k,none⟩=some (nPtr q)∧wr.cell? ⟨rb,0,none⟩=some v∧wr.cell? ⟨fb,0,none⟩=some (wkV nb ob fb)∧rb<wr.heap.size∧fb<wr.heap.size ∧
   Calls Tryz.prog 70 #[nPtr q,v,.bool st,sPtr nb,sPtr ob,sPtr fb] wr fun e w'=>e=.returned (.tuple #[])∧RgW J nb mb ob fb A (L++tls (rl m) ((es.take (k+1)).map Ad.tr) pre.length ((ps.map Prod.snd).reverse) st) w'∧Fm J w2 w':=by
 obtain⟨g,cap,hv,hcell⟩:=row_open h.row (by rw[List.length_map];omega)
 simp only[Value.slice.injEq] at hv
 obtain⟨rfl,_,rfl⟩:=hv
 have hgl:=(own_lt h.row g rfl).1
 have hmem:=List.getElem_mem hlt
 have hct:=cnts_take es k hlt
 have htl:=tls_len (f:=rl m) (rl_len m) ((es.take k).map Ad.tr) pre.length ((ps.map Prod.snd).reverse) st
 rw[cnts_map] at htl
 have hHL:=h.len
 have hA2:A=(pre++Ad.adss (es.take k))++((es[k]).ads++(Ad.adss (es.drop (k+1))++post)):=by
  rw[h.ad];exact zbff
 obtain⟨k1,k2,k3,k4⟩:=h.kn _ hmem
 have hC:=h.wk (es[k]) k1 J nb mb ob fb A _ _ _ v ps st wr hA2 hg (AAt.later hf.stay _ k2) k3 k4 (h.rr.later hf.stay) h.pos (by omega) (by rw[List.length_append];omega)
 have hpn:(pre++Ad.adss (es.take k)).length=pre.length+Tr.counts ((es.map Ad.tr).take k):=by rw[List.length_append,Ad.adss_len,←List.map_take,cnts_map]
 have htk:=tls_take (rl m) (es.map Ad.tr) k (by rw[List.length_map];exact hlt) pre.length ((ps.map Prod.snd).reverse) st
 refine⟨g,(es[k]).p,rfl,Nat.lt_of_lt_of_le hgl hf.size,?_,?_,?_,Nat.lt_of_lt_of_le (lt_of_heap h.box.1) hf.size,Nat.lt_of_lt_of_le (lt_of_heap h.rw.wlk) hf.size,hC.mono ?_⟩
 ·rw[hf.cell (h.rj g rfl) hgl,hcell k (by rw[List.length_map];exact hlt),List.getElem_map]
 ·rw[hf.cell h.box.2 (lt_of_heap h.box.1),cell_of h.box.1];rfl
 ·rw[hf.cell h.rw.inb.2.2 (lt_of_heap h.rw.wlk),cell_of h.rw.wlk];rfl
 ·rintro e w' ⟨rfl,h1,h2⟩;refine⟨rfl,?_,hf.trans h2⟩;rw[List.map_take,htk,←List.append_assoc];rw[hpn] at h1;rw[List.map_take] at h1;simpa using h1
theorem rlRound {G:Prop}(h:G:=by
 obtain⟨k,hk,rfl,hg,hap⟩:=hrel
 have HGK:=hide hg
 have HAK:=hide hap
 clear hg hap
 by_cases hlt:k<es.length
 ·obtain⟨g,q,hka,hgl,hck,hrb,hfb,hrl,hfl,hC⟩:=HKL.out.step _ hlt HGK.out HAK.out;subst hka;have hki:(k:Int)<(es.length:Int):=by omega
  have HC:=hide hC;clear hC;go_wp2_with fail;refine cm HC.out ?_;rintro e w6 ⟨rfl,hg6,ha6⟩;have HG6:=hide hg6;have HA6:=hide ha6;clear HC hg6 ha6;exact zcco
 ·have hkk:k=es.length:=by omega
  subst hkk;rw[List.take_length] at HGK;go_wp2_with fail
  first
  | (go_end0;exact⟨rfl,unhide HEND _ HGK.out HAK.out⟩)
  | (refine bodyPost_ret (v:=.tuple #[]) (by simp[results,Tryz.results70,go_sem]) rfl ⟨rfl,?_⟩;exact unhide HEND _ HGK.out HAK.out)):G:=h
open zrqek in
theorem rlElse {m:Nat}(hT:WalkC m)(a:Ad)(hm:a.cnt≤m+1)(I:Nat→Prop)(nb mb ob fb:Nat)(A pre post:List Nat)(L:List Us)(v:Value)(ps:List (Value × Sc))(st:Bool)(w:World)
  (hA:A=pre++(a.ads++post)) (hW:RgW I nb mb ob fb A L w) (ha:AAt I w a) (hi:a.tr.ill=0) (hws:WS a.tr) (hR:RR I w v ps) (hp0:0<ps.length) (hpl:ps.length+a.cnt≤20000) (hL:L.length+a.cnt≤20000)
  (h23:a.kd≠23) (h9:a.kd≠9) (h13:a.kd≠13) (h6:a.kd≠6) (hf:isFunT a.tr=false) :
  Calls Tryz.prog 70 #[nPtr a.p,v,.bool st,sPtr nb,sPtr ob,sPtr fb] w fun e w'=>e=.returned (.tuple #[])∧RgW I nb mb ob fb A (L++tls (rl m) a.tr.kids (pre.length+1) ((ps.map Prod.snd).reverse) st) w'∧Fm I w w':=by
 obtain⟨_,hap,c0,_,kv,c3,hrow⟩:=ha.cells
 obtain⟨ka,kc,hkv⟩:=row_shut hrow.1
 rw[List.length_map] at hkv
 subst hkv
 have hrow1:=hrow.1
 have hrow2:=hrow.2
 obtain⟨g,cap,hvf,_,_⟩:=hR.1.form hp0
 subst hvf
 exact zrdp
theorem RR.push {I J:Nat→Prop}{w wz:World}{v v' nv:Value}{ps:List (Value × Sc)}{c:Sc}(h:RR I w v ps)(hs:Stay I w wz)(hIJ:∀ b,I b→J b)(hrow:wz.ownsRow 0 116 3 v' (ps.length+1) (rgCells ps++[.int .i64 c.own,nv,.bool c.opn]))(hj:∀ g,v'.ownBlock=some g→J g)(hn:SRow 0 wz nv c.nms)(hnj:∀ g,nv.ownBlock=some g→J g)(hl:c.nms.length≤90000):RR J wz v' (ps++[(nv,c)]):=by
 have h1:=(h.later hs).mono hIJ
 refine⟨?_,hj,fun x hx=>?_⟩
 ·rw[List.length_append,rgCells_app];exact hrow
 ·rcases List.mem_append.1 hx with hx|hx
  ·exact h1.2.2 x hx
  ·rw[List.mem_singleton.1 hx];exact⟨hn,hnj,hl⟩
open zrqel in
theorem rl13 {m:Nat}(hT:WalkC m)(a:Ad)(hm:a.cnt≤m+1)(I:Nat→Prop)(nb mb ob fb:Nat)(A pre post:List Nat)(L:List Us)(v:Value)(ps:List (Value × Sc))(st:Bool)(w:World)
  (hA:A=pre++(a.ads++post)) (hW:RgW I nb mb ob fb A L w) (ha:AAt I w a) (hi:a.tr.ill=0) (hws:WS a.tr) (hR:RR I w v ps) (hp0:0<ps.length) (hpl:ps.length+a.cnt≤20000) (hL:L.length+a.cnt≤20000)
  (h13:a.kd=13) :
  Calls Tryz.prog 70 #[nPtr a.p,v,.bool st,sPtr nb,sPtr ob,sPtr fb] w fun e w'=>e=.returned (.tuple #[])∧RgW I nb mb ob fb A (L++tls (rl m) a.tr.kids (pre.length+1) (⟨pre.length,[a.tx],false⟩::(ps.map Prod.snd).reverse) st) w'∧Fm I w w':=by
 obtain⟨_,hap,c0,c1,kv,c3,hrow⟩:=ha.cells
 obtain⟨ka,kc,hkv⟩:=row_shut hrow.1
 rw[List.length_map] at hkv
 subst hkv
 rw[h13] at c0
 exact zrp
def RvAt (m:Nat):Prop:=∀ (t:Tr),t.count≤m→t.count≤20000→∀ (p:Nat) (w:World),NTr w t p →
  Calls Tryz.prog 79 #[nPtr p] w fun e w'=>(∃ u,e=.returned u∧SRow w.heap.size w' u (varsT t))∧Below w.heap.size w w'
theorem fold_len:∀ (l acc:List ByteArray),(l.foldl addB acc).length≤acc.length+l.length
 | [],acc=>by simp
 | x::l,acc=>by
  have h:=fold_len l (addB acc x);have h2:(addB acc x).length≤acc.length+1:=by unfold addB;split <;> simp
  simp only[List.foldl_cons,List.length_cons];omega
theorem vars_step (t:Tr)(k:Nat)(hk:k<t.kids.length):onceL (vws (t.kids.take (k+1)))=(vw t.kids[k]).foldl addB (onceL (vws (t.kids.take k))):=by
 rw[vws_take t.kids k hk,onceL,List.foldl_append];rfl
theorem rvars_step {m:Nat}(ih:RvAt m):RvAt (m+1):=by
 intro t ht hc p w h
 have htc:t.count=1+Tr.counts t.kids:=by cases t with|mk kd tx nn ks=>exact count_mk _ _ _ _
 obtain⟨hpl,_,_,u,c3,hr⟩:=h.cells
 obtain⟨ua,uc,rfl⟩:=hr.form
 have HR:=hide hr
 have hkl:t.kids.length≤20000:=by have:=counts_len t.kids;omega
 have HIH:Hid (∀ (k:Nat) (hk:k<t.kids.length) (q:Nat) (W:World),NTr W t.kids[k] q→Calls Tryz.prog 79 #[nPtr q] W fun e w'=>(∃ u,e=.returned u∧SRow W.heap.size w' u (varsT t.kids[k]))∧Below W.heap.size W w'):=fun k hk q W hq=>by
  have h1:=counts_le t.kids k hk;exact ih t.kids[k] (by omega) (by omega) q W hq
 have HLV:Hid (∀ k,(vws (t.kids.take k)).length≤20000):=fun k=>by
  have h1:=vws_len (t.kids.take k);have h2:Tr.counts t.kids=Tr.counts (t.kids.take k)+Tr.counts (t.kids.drop k):=by rw[←counts_app,List.take_append_drop]
  omega
 have HLK:Hid (∀ k (hk:k<t.kids.length),(varsT t.kids[k]).length≤20000):=fun k hk=>by
  have h1:=counts_le t.kids k hk;have h2:=vars_len t.kids[k];have h3:(t.kids[k]).count=1+Tr.counts (t.kids[k]).kids:=by cases t.kids[k] with|mk kd tx nn ks=>exact count_mk _ _ _ _
  omega
 unfold varsT
 clear h hr htc ht hc ih
 go_enter Tryz.func79,Tryz.ntmps79
 go_wp2_with fail
 go_loopw [3,15] (fun o j wr=>∃ k:Nat,k≤t.kids.length∧j=.int .i64 k∧SRow w.heap.size wr o (onceL (vws (t.kids.take k)))∧Below w.heap.size w wr) (fun _ j _=>t.kids.length - (intOf j).toNat)
 case atStart=>exact⟨0,Nat.zero_le _,rfl,by simpa[vws,onceL] using srow_nil _ _,Below.refl _ _⟩
 case round=>
  obtain⟨k,hk,rfl,hown,hbel⟩:=hrel;have HOWN:=hide hown;have HB:=hide hbel;obtain⟨oa,oc,rfl⟩:=srow_form hown;clear hown hbel c3
  by_cases hlt:k<t.kids.length
  ·obtain⟨g,cap,q,hv,hg,hcc,hn⟩:=(HR.out.later HB.out).cell k hlt;simp only[Value.slice.injEq] at hv;obtain⟨rfl,_,rfl⟩:=hv;have hki:(k:Int)<(t.kids.length:Int):=by omega
   obtain⟨hql,q0,q1,_⟩:=hn.cells;have HN:=hide hn;have HST:=hide (vars_step t k hlt);have HVW:=hide (vw_eq t.kids[k])
   have HF:=hide (fun W (hW:Below wr.heap.size wr W)=>risFunc_any t.kids[k] q W (hn.later hW));have hol:=once_len (vws (t.kids.take k));have hvl:=unhide HLV k;have hvk:=unhide HLK k hlt
   have HI:=hide (unhide HIH k hlt q);obtain⟨L,hL⟩:∃ L,L=onceL (vws (t.kids.take k)):=⟨_,rfl⟩;rw[←hL] at HOWN HST hol ⊢;have hLl:L.length≤20000:=by omega
   have hsz:=HB.out.size;have HAD:=hide (fun s W (hW:Below wr.heap.size wr W)=>radd_any L s (.slice oa L.length oc) W (SRow.later HOWN.out hW) (by omega) (Nat.le_trans hsz hW.size))
   generalize t.kids[k]=x at q0 q1 HN HST HVW HF hvk HI
   clear hn hL hol hvl
   cases hk2:(x.kd==2) with
   | true=>
    have HOV:Hid (ownVar x=[x.tx]):=by show _=_;unfold ownVar;rw[hk2];rfl
    have HC0:=hide (unhide HAD x.tx wr (Below.refl _ _))
    generalize x.tx=tx at q1 HC0 HOV
    generalize x.kd=kd at q0 hk2
    go_wp2_with fail;refine cm HC0.out ?_;rintro e W1 ⟨⟨u1,rfl,hr1⟩,hb1⟩;obtain⟨L1,hL1⟩:∃ L1,L1=addB L tx:=⟨_,rfl⟩;rw[←hL1] at hr1;obtain⟨a1,c1,rfl⟩:=srow_form hr1;have HO1:=hide hr1
    have HW1:=hide hb1;have HB1:=hide (HB.out.trans (hb1.mono HB.out.size))
    have hL1l:L1.length≤30000:=by rw[hL1];have h2:=fold_len [tx] L;simp only[List.foldl_cons,List.foldl_nil,List.length_cons,List.length_nil] at h2;omega
    have HLL:=hide hL1;clear HC0 hr1 hb1 hL1
    cases hf:isFunT x with
    | true=>
     rw[hf] at HF HVW;have HC:=hide (unhide HF W1 HW1.out);go_wp2_with fail;refine cm HC.out ?_;rintro e w3 ⟨rfl,rfl⟩;clear HC;go_wp2_with fail
     go_roundw
     case rel=>
      refine⟨k+1,by omega,by go_num,?_,HB1.out⟩;rw[HST.out,HVW.out,HOV.out];simp only[if_true,List.append_nil,List.foldl_cons,List.foldl_nil];rw[←HLL.out];exact unhide HO1
     case measure=>simp[intOf];omega
    | false=>
     exact zbau
   | false=>
    have HOV:Hid (ownVar x=[]):=by show _=_;unfold ownVar;rw[hk2];rfl
    obtain⟨W1,hW1⟩:∃ W1,W1=wr:=⟨_,rfl⟩;obtain⟨L1,hL1⟩:∃ L1,L1=L:=⟨_,rfl⟩;have HO1:Hid (SRow w.heap.size W1 (.slice oa L1.length oc) L1):=by rw[hW1,hL1];exact unhide HOWN
    have HW1:Hid (Below wr.heap.size wr W1):=by rw[hW1];exact Below.refl _ _
    have HB1:Hid (Below w.heap.size w W1):=by rw[hW1];exact unhide HB
    have hL1l:L1.length≤30000:=by rw[hL1];omega
    have HLL:=hide hL1;subst hW1;rw[←hL1]
    generalize x.kd=kd at q0 hk2
    clear hL1
    cases hf:isFunT x with
    | true=>
     rw[hf] at HF HVW;have HC:=hide (unhide HF W1 HW1.out);go_wp2_with fail;refine cm HC.out ?_;rintro e w3 ⟨rfl,rfl⟩;clear HC;go_wp2_with fail
     go_roundw
     case rel=>
      refine⟨k+1,by omega,by go_num,?_,HB1.out⟩;rw[HST.out,HVW.out,HOV.out];simp only[if_true,List.append_nil,List.foldl_nil];rw[←HLL.out];exact unhide HO1
     case measure=>simp[intOf];omega
    | false=>
     exact zbau
  ·have hkk:k=t.kids.length:=by omega
   subst hkk;go_wp2_with fail;go_ret;have h:=unhide HOWN;rw[List.take_length] at h;refine⟨⟨_,rfl,?_⟩,HB.out⟩;rw[List.take_length];exact h
theorem rvars_all:∀ m,RvAt m:=by
 intro m
 induction m with
 | zero=>
  exact zbeo
 | succ m ih=>exact rvars_step ih
theorem rvars_any (t:Tr)(p:Nat)(w:World)(h:NTr w t p)(hc:t.count≤20000) :
  Calls Tryz.prog 79 #[nPtr p] w fun e w'=>(∃ u,e=.returned u∧SRow w.heap.size w' u (varsT t))∧Below w.heap.size w w':=rvars_all t.count t (Nat.le_refl _) hc p w h
theorem cellR {w:World}{b o:Nat}{v:Value}(h:w.cell? ⟨b,o,none⟩=some v):b<w.heap.size:=by
 exact zbgj
theorem keepR {w X:World}{b o:Nat}{v:Value}(hb:Below w.heap.size w X)(h:w.cell? ⟨b,o,none⟩=some v):X.cell? ⟨b,o,none⟩=some v:=
 (World.cell?_of_block (w:=w) (a:=⟨b,o,none⟩) (hb.block b (cellR h))).trans h
def NRow0 (w0:World)(B:Nat)(w:World)(v:Value)(ts:List Tr):Prop:=∃ ps:List Nat,w.ownsRow B 22 1 v ps.length (ps.map nPtr)∧NLs (fun _=>True) w0 ts ps
theorem NRow0.row {w0 w:World}{B:Nat}{v:Value}{ts:List Tr}(h:NRow0 w0 B w v ts)(hb:Below w0.heap.size w0 w):NRow B w v ts:=by
 obtain⟨ps,h1,h2⟩:=h
 exact⟨ps,h1,NLs.later (Below.stay hb) _ _ h2⟩
theorem NRow0.low {w0 w:World}{B B':Nat}{v:Value}{ts:List Tr}(h:NRow0 w0 B w v ts)(hB:B'≤B):NRow0 w0 B' w v ts:=by
 obtain⟨ps,h1,h2⟩:=h
 refine⟨ps,⟨h1.1,?_⟩,h2⟩
 rcases h1.2 with hn|⟨g,cap,cur,hv,hb,rest⟩
 ·exact Or.inl hn
 ·exact Or.inr ⟨g,cap,cur,hv,by omega,rest⟩
theorem NRow0.form {w0 w:World}{B:Nat}{v:Value}{ts:List Tr}(h:NRow0 w0 B w v ts):∃ a cap,v=.slice a ts.length cap:=by
 obtain⟨ps,h1,h2⟩:=h
 rw[←NLs.length _ _ h2]
 exact row_shut h1
theorem NRow0.later {w0 w w':World}{B:Nat}{v:Value}{ts:List Tr}(h:NRow0 w0 B w v ts)(hb:Below w.heap.size w w'):NRow0 w0 B w' v ts:=by
 obtain⟨ps,h1,h2⟩:=h
 exact⟨ps,owns_stay (I:=fun _=>True) (Below.stay hb) (fun _ _=>trivial) h1,h2⟩
def ofK (zs:List Int)(k:Tr):List Tr:=(zs.filter fun z=>k.kd==z).map fun _=>k
def ofKs (zs:List Int):List Tr→List Tr
 | []=>[]
 | k::ks=>ofK zs k++ofKs zs ks
theorem ofKs_app (zs:List Int):∀ a b:List Tr,ofKs zs (a++b)=ofKs zs a++ofKs zs b
 | [],b=>rfl
 | t::a,b=>by simp[ofKs,ofKs_app zs a b]
theorem ofKs_take (zs:List Int)(ts:List Tr)(k:Nat)(hk:k<ts.length):ofKs zs (ts.take (k+1))=ofKs zs (ts.take k)++ofK zs ts[k]:=by
 rw[List.take_succ_eq_append_getElem hk,ofKs_app]
 simp[ofKs]
theorem ofK_take (zs:List Int)(k:Tr)(i:Nat)(hi:i<zs.length):ofK (zs.take (i+1)) k=ofK (zs.take i) k++(if k.kd==zs[i] then [k] else []):=by
 unfold ofK
 rw[List.take_succ_eq_append_getElem hi,List.filter_append,List.map_append]
 simp only[List.filter_cons,List.filter_nil]
 split <;> simp
theorem ofK_len (zs:List Int)(k:Tr):(ofK zs k).length≤zs.length:=by unfold ofK;rw[List.length_map];exact List.length_filter_le _ _
theorem ofKs_len (zs:List Int):∀ ts:List Tr,(ofKs zs ts).length≤ts.length * zs.length
 | []=>by simp[ofKs]
 | t::ts=>by
  have h1:=ofK_len zs t;have h2:=ofKs_len zs ts;rw[ofKs,List.length_append,List.length_cons,Nat.add_mul];omega
theorem ofKs_fn:∀ ts:List Tr,ofKs [5] ts=ts.filter isFnT
 | []=>rfl
 | t::ts=>by
  rw[ofKs,ofKs_fn ts,List.filter_cons];unfold ofK isFnT;simp only[List.filter_cons,List.filter_nil]
  split <;> simp
theorem ofKs_let:∀ ts:List Tr,ofKs [3,4] ts=ts.filter isLetT
 | []=>rfl
 | t::ts=>by
  rw[ofKs,ofKs_let ts,List.filter_cons];unfold ofK isLetT;simp only[List.filter_cons,List.filter_nil]
  by_cases h3:t.kd=3
  ·simp[h3]
  ·by_cases h4:t.kd=4
   ·simp[h4]
   ·simp[h3,h4]
theorem kinds_any (zs:List Int)(hz:zs.length≤2)(g0:Nat)(t:Tr)(p:Nat)(w0 w:World)(h:NTr w0 t p)(hb0:Below w0.heap.size w0 w)(hl:t.kids.length≤20000)(hzr:∀ i,(hi:i<zs.length)→w.cell? ⟨g0,i,none⟩=some (.int .i64 zs[i])) :
  Calls Tryz.prog 122 #[nPtr p,.slice (some ⟨g0,0,none⟩) zs.length zs.length] w fun e w'=>(∃ u,e=.returned u∧NRow0 w0 w.heap.size w' u (ofKs zs t.kids))∧Below w.heap.size w w':=by
 obtain⟨i0,hi0,hz0,hz1,hz2⟩:=info_parts info22
 obtain⟨hpl0,y0,y1,u,c30,hr⟩:=h.cells
 have c3:=keepR hb0 c30
 have hpl:=cellR c3
 have HB0:=hide hb0
 obtain⟨va,vc,rfl⟩:=hr.form
 have HR:=hide hr
 have HZ:=hide hzr
 clear h hr hzr y0 y1 hb0 hpl0 c30
 generalize hts:t.kids=ts at HR hl c3
 clear hts t
 go_enter Tryz.func122,Tryz.ntmps122
 go_wp2_with fail
 go_loopw [5,17] (fun o j wr=>∃ (k:Nat) (qs:List Nat),k≤ts.length∧j=.int .i64 k∧wr.ownsRow w.heap.size 22 1 o qs.length (qs.map nPtr)∧NLs (fun _=>True) w0 (ofKs zs (ts.take k)) qs∧Below w.heap.size w wr) (fun _ j _=>ts.length - (intOf j).toNat)
 case atStart=>exact⟨0,[],Nat.zero_le _,rfl,⟨rfl,Or.inl ⟨rfl,rfl⟩⟩,NLs.nil,Below.refl _ _⟩
 case round=>
  obtain⟨k,qs,hk,rfl,hown,hns,hbel⟩:=hrel;have HO:=hide hown;have HNS:=hide hns;have HB:=hide hbel;obtain⟨oa,oc,rfl⟩:=row_shut hown;have hql:qs.length≤40000:=by
   rw[NLs.length _ _ hns];have h1:=ofKs_len zs (ts.take k);rw[List.length_take,Nat.min_eq_left hk] at h1;have h2:k * zs.length≤k * 2:=Nat.mul_le_mul_left k hz;omega
  clear hown hbel hns c3
  by_cases hlt:k<ts.length
  ·obtain⟨g,cap,q,hv,hg,hc0,hn0⟩:=HR.out.cell k hlt;simp only[Value.slice.injEq] at hv;obtain⟨rfl,_,rfl⟩:=hv
   have hc:wr.cell? ⟨g,k,none⟩=some (nPtr q):=keepR (HB0.out.trans (HB.out.mono HB0.out.size)) hc0;have hki:(k:Int)<(ts.length:Int):=by omega
   have hgr:g<wr.heap.size:=cellR hc;have HN:=hide hn0;have HTK:=hide (ofKs_take zs ts k hlt);have HLN:Hid ((ofK zs ts[k]).length≤2):=Nat.le_trans (ofK_len _ _) hz;clear hn0 hc0;go_wp2_with fail
   go_loopw [5,23] (fun o j wr2=>∃ (i:Nat) (rs:List Nat),i≤zs.length∧j=.int .i64 i∧rs.length≤qs.length+i∧wr2.ownsRow w.heap.size 22 1 o rs.length (rs.map nPtr)∧NLs (fun _=>True) w0 (ofKs zs (ts.take k)++ofK (zs.take i) ts[k]) rs∧Below w.heap.size w wr2) (fun _ j _=>zs.length - (intOf j).toNat)
   case atStart=>exact⟨0,qs,Nat.zero_le _,rfl,by omega,HO.out,by simpa[ofK] using HNS.out,HB.out⟩
   case round=>
    obtain⟨i,rs,hi,rfl,hrl,hown,hns,hbel⟩:=hrel;have HO2:=hide hown;have HNS2:=hide hns;have HB2:=hide hbel;obtain⟨ob,od,rfl⟩:=row_shut hown;clear hown hbel hns
    by_cases hli:i<zs.length
    ·have hzi:=HZ.out i hli;have HTI:=hide (ofK_take zs ts[k] i hli);obtain⟨z,hzz⟩:∃ z,z=zs[i]:=⟨_,rfl⟩;rw[←hzz] at hzi HTI;have hzc:=keepR HB2.out hzi
     have hii:(i:Int)<(zs.length:Int):=by omega
     have hgz:=cellR hzc;obtain⟨hql2,k0,_,_⟩:=(HN.out.later (HB0.out.trans (HB2.out.mono HB0.out.size))).cells;obtain⟨kd,hkd⟩:∃ kd,kd=(ts[k]).kd:=⟨_,rfl⟩;rw[←hkd] at k0 HTI
     have HOL:=hide (own_lt HO2.out);have hsz2:=HB2.out.size;clear hzi hzz hkd
     cases hh:(kd==z) with
     | true=>
      rw[hh] at HTI
      go_wp2_with (at_builtin;refine wpList_append_lies _ rfl _ _ 46 rfl w.heap.size 22 i0 (.pointer none) 1 8 Tryz.underlying46 hi0 hz0 hz1 hz2 rfl (by decide) _ _ _ rfl (HO2.out.alloc _) ⟨wr.heap.size,0,none⟩ 1 1 [nPtr q] rfl rfl (one_cellsP wr q _ rfl) (one_oneP q) (by decide) (by unfold maxLen;omega) (by omega) (by simp;omega) (wr.heap.size+1) (by simp) ?_)
      intro g' cap' w3 hown' hgrow hg' _;have HB3:=hide (HB2.out.trans (((Below.refl w.heap.size wr).alloc hsz2 (.cells #[nPtr q] 22)).grown hgrow (by simp;omega) (fun b hb=>(unhide HOL b hb).2)))
      have HO3:=hide hown';clear hown' hgrow hg';go_wp2_with fail
      go_roundw
      case rel=>
       refine⟨i+1,rs++[q],by omega,by go_num,by simp;omega,?_,?_,HB3.out⟩
       ·rw[List.length_append,List.map_append];exact unhide HO3
       ·rw[HTI.out,←List.append_assoc];exact NLs.append (NLs.cons HN.out NLs.nil) _ _ HNS2.out
      case measure=>simp[intOf];omega
     | false=>
      rw[hh] at HTI;go_wp2_with fail
      go_roundw
      case rel=>
       refine⟨i+1,rs,by omega,by go_num,by omega,HO2.out,?_,HB2.out⟩;rw[HTI.out];simp only[Bool.false_eq_true,if_false,List.append_nil];exact unhide HNS2
      case measure=>simp[intOf];omega
    ·have hii:i=zs.length:=by omega
     subst hii;go_wp2_with fail
     go_roundw
     case rel=>
      refine⟨k+1,rs,by omega,by go_num,HO2.out,?_,HB2.out⟩;have h:=unhide HNS2;rw[List.take_length] at h;rw[HTK.out];exact h
     case measure=>simp[intOf];omega
  ·have hkk:k=ts.length:=by omega
   subst hkk;go_wp2_with fail;go_ret;have h:=unhide HNS;rw[List.take_length] at h;exact⟨⟨_,rfl,qs,HO.out,h⟩,HB.out⟩
theorem cells_int1 (w:World)(a:Int):∀ i,(hi:i < [a].length)→(w.alloc (.cells #[.int .i64 a] 3)).cell? ⟨w.heap.size,i,none⟩=some (.int .i64 [a][i]):=fun i hi=>by
 rw[cell_of (heap_new _ _)]
 match i,hi with
 | 0,_=>rfl
theorem cells_int2 (w:World)(a b:Int):∀ i,(hi:i < [a,b].length)→(w.alloc (.cells #[.int .i64 a,.int .i64 b] 3)).cell? ⟨w.heap.size,i,none⟩=some (.int .i64 [a,b][i]):=fun i hi=>by
 rw[cell_of (heap_new _ _)]
 match i,hi with
 | 0,_=>rfl
 | 1,_=>rfl
section
variable (t:Tr) (p:Nat) (w0 w:World) (h:NTr w0 t p) (hw:Below w0.heap.size w0 w) (hl:t.kids.length≤20000)
include t p w0 w h hw hl
theorem rfuncs_any :
  Calls Tryz.prog 84 #[nPtr p] w fun e w'=>(∃ u,e=.returned u∧NRow0 w0 w.heap.size w' u (fnsT t))∧Below w.heap.size w w':=by
 have hb0:Below w.heap.size w (w.alloc (.cells #[.int .i64 5] 3)):=(Below.refl _ _).alloc (Nat.le_refl _) _
 have HC:=hide (kinds_any [5] (by decide) w.heap.size t p w0 (w.alloc (.cells #[.int .i64 5] 3)) h (hw.trans (hb0.mono hw.size)) hl (cells_int1 w 5))
 rw[ofKs_fn] at HC
 have HB:=hide hb0
 clear h hb0 hw
 unfold fnsT
 go_enter Tryz.func84,Tryz.ntmps84
 exact zbek
theorem rlets_any :
  Calls Tryz.prog 65 #[nPtr p] w fun e w'=>(∃ u,e=.returned u∧NRow0 w0 w.heap.size w' u (letsT t))∧Below w.heap.size w w':=by
 have hb0:Below w.heap.size w (w.alloc (.cells #[.int .i64 3,.int .i64 4] 3)):=(Below.refl _ _).alloc (Nat.le_refl _) _
 have HC:=hide (kinds_any [3,4] (by decide) w.heap.size t p w0 (w.alloc (.cells #[.int .i64 3,.int .i64 4] 3)) h (hw.trans (hb0.mono hw.size)) hl (cells_int2 w 3 4))
 rw[ofKs_let] at HC
 have HB:=hide hb0
 clear h hb0 hw
 unfold letsT
 go_enter Tryz.func65,Tryz.ntmps65
 exact zbek
end
end Go.Proofs.YtoimgcjbcbhclaaGreatDoor
