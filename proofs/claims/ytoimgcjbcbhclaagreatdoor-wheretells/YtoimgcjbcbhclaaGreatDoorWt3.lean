/-
  Parts of proofs that stand more than once.
-/
import Derived.Test.YtoimgcjbcbhclaaGreatDoorWt2
set_option maxRecDepth 100000
set_option maxHeartbeats 16000000
namespace Go.Proofs.YtoimgcjbcbhclaaGreatDoor
open Go.RowKit
theorem zrql.zrcsX {G:Prop}(h:G:=by
  have HNN:=hide hn;have H2:Hid (w.heap.size+2≤w2.heap.size):=by show _≤_;omega
  clear hn hrd ha c0 c1 HC HN HP hszR hsz2 hR;go_wp2_with fail;refine leaves_cons (f:=101) (args:=#[.pointer (some ⟨w.heap.size,0,none⟩),.pointer (some ⟨w.heap.size+1,0,none⟩)]) (by simp) (by simp[go_sem]) ?_
  refine(catch_idle ⟨w.heap.size,0,none⟩ ⟨w.heap.size+1,0,none⟩ _).mono ?_;rintro e u' w'' ⟨rfl,rfl,rfl⟩
  show Leaves _ _ _ _ [] .returning _
  refine⟨.tuple #[nPtr p,.nilIface],by simp[results,Tryz.results43,go_sem,d0,d1],p,rfl,?_,?_⟩
  ·refine NAt.mono (J:=From w.heap.size) (fun b hb _=>?_) _ _ (NAt.later (I:=fun b=>w2.heap.size≤b) (fun b hb _=>?_) _ _ HNN.out)
   ·have h2:=unhide H2;have h3:w2.heap.size≤b:=hb
    show w.heap.size≤b
    omega
   ·have h2:=unhide H2;have h3:w2.heap.size≤b:=hb
    rw[Below.heap_setCell _ ⟨w.heap.size+1,0,none⟩ _ b (by show b≠w.heap.size+1;omega),Below.heap_setCell _ ⟨w.heap.size,0,none⟩ _ b (by show b≠w.heap.size;omega)]
  ·exact(HBW.out.setCell (p:=⟨w.heap.size,0,none⟩) (Nat.le_refl _) _).setCell (p:=⟨w.heap.size+1,0,none⟩) (Nat.le_succ _) _
 ):G:=h
theorem zrql.zreaX {G:Prop}(h:G:=by
  obtain⟨⟨v,rfl,p,rfl,hn⟩,hrd,ha⟩:=hp;exact zrcs
 ):G:=h
theorem zrqm.zrcsX {G:Prop}(h:G:=by
  have H2:Hid (w.heap.size+2≤w2.heap.size):=by show _≤_;omega
  have h3l:w.heap.size+1<w3.heap.size:=lt_of_heap c1;have C0:=hide c0;have C1:=hide c1;clear ha c0 c1 HC HN HP hszR hsz2 hR H2
  refine leaves_cons (f:=101) (args:=#[.pointer (some ⟨w.heap.size,0,none⟩),.pointer (some ⟨w.heap.size+1,0,none⟩)]) (by simp) (by simp[go_sem]) ?_
  refine(catch_fault w.heap.size (w.heap.size+1) er pl w3 _ _ d0 d0f d1 d1f (by omega) (by omega) h3l).mono ?_;rintro e u' w'' ⟨rfl,rfl,rfl⟩
  show Leaves _ _ _ _ [] .returning _
  have g0:((((w3.setCell ⟨w.heap.size,0,none⟩ (.pointer none)).setCell ⟨w.heap.size+1,0,none⟩ (.iface 144 (.pointer (some ⟨w3.heap.size+1,0,none⟩)))).alloc (.cells #[.int .i64 er,.int .i64 (pl:Int)] 142)).alloc (.cells #[.int .i64 er,.int .i64 (pl:Int)] 145)).drew.heap[w.heap.size]? = some (.cells #[.pointer none] 22 (0,0)):=by
   show ((((w3.setCell ⟨w.heap.size,0,none⟩ (.pointer none)).setCell ⟨w.heap.size+1,0,none⟩ (.iface 144 (.pointer (some ⟨w3.heap.size+1,0,none⟩)))).alloc (.cells #[.int .i64 er,.int .i64 (pl:Int)] 142)).alloc (.cells #[.int .i64 er,.int .i64 (pl:Int)] 145)).heap[w.heap.size]? = _
   rw[Below.heap_alloc _ _ _ (by simp;omega),Below.heap_alloc _ _ _ (by simp;omega),Below.heap_setCell _ ⟨w.heap.size+1,0,none⟩ _ _ (by show w.heap.size≠w.heap.size+1;omega),heap_set C0.out]
   rfl
  have g1:((((w3.setCell ⟨w.heap.size,0,none⟩ (.pointer none)).setCell ⟨w.heap.size+1,0,none⟩ (.iface 144 (.pointer (some ⟨w3.heap.size+1,0,none⟩)))).alloc (.cells #[.int .i64 er,.int .i64 (pl:Int)] 142)).alloc (.cells #[.int .i64 er,.int .i64 (pl:Int)] 145)).drew.heap[w.heap.size+1]? = some (.cells #[.iface 144 (.pointer (some ⟨w3.heap.size+1,0,none⟩))] 28 (0,0)):=by
   show ((((w3.setCell ⟨w.heap.size,0,none⟩ (.pointer none)).setCell ⟨w.heap.size+1,0,none⟩ (.iface 144 (.pointer (some ⟨w3.heap.size+1,0,none⟩)))).alloc (.cells #[.int .i64 er,.int .i64 (pl:Int)] 142)).alloc (.cells #[.int .i64 er,.int .i64 (pl:Int)] 145)).heap[w.heap.size+1]? = _
   have hs:(w3.setCell ⟨w.heap.size,0,none⟩ (.pointer none)).heap[w.heap.size+1]? = some (.cells #[.nilIface] 28 (0,0)):=by
    rw[Below.heap_setCell _ ⟨w.heap.size,0,none⟩ _ _ (by show w.heap.size+1≠w.heap.size;omega)];exact unhide C1
   rw[Below.heap_alloc _ _ _ (by simp;omega),Below.heap_alloc _ _ _ (by simp;omega),heap_set hs]
   rfl
  have e0:((((w3.setCell ⟨w.heap.size,0,none⟩ (.pointer none)).setCell ⟨w.heap.size+1,0,none⟩ (.iface 144 (.pointer (some ⟨w3.heap.size+1,0,none⟩)))).alloc (.cells #[.int .i64 er,.int .i64 (pl:Int)] 142)).alloc (.cells #[.int .i64 er,.int .i64 (pl:Int)] 145)).drew.cell? ⟨w.heap.size,0,none⟩=some (.pointer none):=by rw[cell_of g0];rfl
  have e1:((((w3.setCell ⟨w.heap.size,0,none⟩ (.pointer none)).setCell ⟨w.heap.size+1,0,none⟩ (.iface 144 (.pointer (some ⟨w3.heap.size+1,0,none⟩)))).alloc (.cells #[.int .i64 er,.int .i64 (pl:Int)] 142)).alloc (.cells #[.int .i64 er,.int .i64 (pl:Int)] 145)).drew.cell? ⟨w.heap.size+1,0,none⟩=some (.iface 144 (.pointer (some ⟨w3.heap.size+1,0,none⟩))):=by rw[cell_of g1];rfl
  obtain⟨WZ,hWZ⟩:∃ WZ,WZ=((((w3.setCell ⟨w.heap.size,0,none⟩ (.pointer none)).setCell ⟨w.heap.size+1,0,none⟩ (.iface 144 (.pointer (some ⟨w3.heap.size+1,0,none⟩)))).alloc (.cells #[.int .i64 er,.int .i64 (pl:Int)] 142)).alloc (.cells #[.int .i64 er,.int .i64 (pl:Int)] 145)).drew:=⟨_,rfl⟩
  rw[←hWZ] at e0 e1;rw[←hWZ];refine⟨.tuple #[.pointer none,.iface 144 (.pointer (some ⟨w3.heap.size+1,0,none⟩))],by simp[results,Tryz.results43,go_sem,e0,e1],w3.heap.size+1,rfl,?_,by omega,?_⟩
  all_goals rw[hWZ]
  ·have:=heap_new (((w3.setCell ⟨w.heap.size,0,none⟩ (.pointer none)).setCell ⟨w.heap.size+1,0,none⟩ (.iface 144 (.pointer (some ⟨w3.heap.size+1,0,none⟩)))).alloc (.cells #[.int .i64 er,.int .i64 (pl:Int)] 142)) (.cells #[.int .i64 er,.int .i64 (pl:Int)] 145)
   rw[show ((((w3.setCell ⟨w.heap.size,0,none⟩ (.pointer none)).setCell ⟨w.heap.size+1,0,none⟩ (.iface 144 (.pointer (some ⟨w3.heap.size+1,0,none⟩)))).alloc (.cells #[.int .i64 er,.int .i64 (pl:Int)] 142)).heap.size)=w3.heap.size+1 by simp] at this
   exact this
  ·have hs:=HBW.out.size
   exact(((((HBW.out.setCell (p:=⟨w.heap.size,0,none⟩) (Nat.le_refl _) _).setCell (p:=⟨w.heap.size+1,0,none⟩) (Nat.le_succ _) _).alloc (by simpa using hs) _).alloc (by simp;omega) _).drew)
 ):G:=h
theorem zrqm.zreaX {G:Prop}(h:G:=by
  obtain⟨rfl,ha⟩:=hp;exact zrcs
 ):G:=h
theorem zrqn.zrcfX {G:Prop}(h:G:=by
  have HC:=hide (node_any 23 x1 (.slice none 0 0) w1 ⟨_,_,_,rfl⟩);go_wp2_with fail;refine cm HC.out ?_;rintro e wn ⟨rfl,rfl⟩;clear HC;go_wp2_with fail;go_ret
  obtain⟨m1,m2,m3⟩:=made0 HR1.out HA1.out (KV.nil _ _) 23 x1 _ rfl;exact ppOk HS.out.symm m1.nv m2 m3
 ):G:=h
theorem zrqo.zrcwX {G:Prop}(h:G:=by
  have HC:=hide (node_any 39 x1 (.slice (some ⟨w3.heap.size,0,none⟩) 1 1) (w3.alloc (.cells #[nPtr p3] 22)) ⟨_,_,_,rfl⟩);go_wp2_with fail;refine cm HC.out ?_;rintro e wn ⟨rfl,rfl⟩;clear HC;go_wp2_with fail
  go_ret;obtain⟨m1,m2,m3⟩:=made HR3.out HA3.out (NAts.cons HN3.out NAts.nil) (by simp[maxLen]) #[nPtr p3] rfl 1 rfl 39 x1 (w3.heap.size+1) rfl;exact ppOk HS.out.symm m1.nv m2 m3
 ):G:=h
theorem zrqo.zrdmX {G:Prop}(h:G:=by
  clear hrd ha HA1 HR1
  cases hr:deepP c.l F.vl d j2 with
  | out=>
   exact zbal
  | bad er p=>
   have HC:=hide (deepV hF w2 d j2 HR2.out (by rw[hr];nofun))
   exact zbcm
  | ok x3 j3=>
   have HC:=hide (deepV hF w2 d j2 HR2.out (by rw[hr];nofun))
   exact zrcw
 ):G:=h
theorem zrqo.zrcfX {G:Prop}(h:G:=by
  cases hr:mustP c.l tColon j1 with
  | out=>
   exact zbal
  | bad er p=>
   have HC:=hide (must_any c tColon w1 j1 d HR1.out (by decide));exact zbcn
  | ok x2 j2=>
   have HC:=hide (must_any c tColon w1 j1 d HR1.out (by decide));exact zrdm
 ):G:=h
theorem zrqp.zrcfX {G:Prop}(h:G:=by
  have HC:=hide (node_any 16 noText (.slice none 0 0) w1 ⟨_,_,_,rfl⟩);go_wp2_with fail;refine cm HC.out ?_;rintro e wn ⟨rfl,rfl⟩;clear HC;go_wp2_with fail;go_ret
  obtain⟨m1,m2,m3⟩:=made0 HR1.out HA1.out (KV.nil _ _) 16 noText _ rfl;exact ppOk HS.out.symm m1.nv m2 m3
 ):G:=h
theorem zrqq.zrdgX {G:Prop}(h:G:=by
  go_wp2_with fail;go_ret;exact ppOk HS.out.symm ⟨p1,rfl,HN1.out⟩ HR1.out HA1.out
 ):G:=h
theorem zrqr.zrdnX {G:Prop}(h:G:=by
  have HN1:=hide (KV.mono hn1.1 HA0.out.size);clear hn1;clear hrd ha HA0 HR0;obtain⟨va,vc,rfl⟩:=HN1.out.shape;have HC:=hide (node_any 40 noText (.slice va x1.length vc) w1 ⟨_,_,_,rfl⟩);go_wp2_with fail
  refine cm HC.out ?_;rintro e wn ⟨rfl,rfl⟩;clear HC;go_wp2_with fail;go_ret;obtain⟨m1,m2,m3⟩:=made0 HR1.out HA1.out HN1.out 40 noText _ rfl;exact ppOk HS.out.symm m1.nv m2 m3
 ):G:=h
theorem zrqs.zrdnX {G:Prop}(h:G:=by
  have HN1:=hide (KV.mono hn1.1 HA0.out.size);clear hn1;clear hrd ha HA0 HR0;obtain⟨va,vc,rfl⟩:=HN1.out.shape;have HC:=hide (node_any 38 noText (.slice va x1.length vc) w1 ⟨_,_,_,rfl⟩);go_wp2_with fail
  refine cm HC.out ?_;rintro e wn ⟨rfl,rfl⟩;clear HC;go_wp2_with fail;go_ret;obtain⟨m1,m2,m3⟩:=made0 HR1.out HA1.out HN1.out 38 noText _ rfl;exact ppOk HS.out.symm m1.nv m2 m3
 ):G:=h
theorem zrqt.zrciX {G:Prop}(h:G:=by
  have HC:=hide (node_any 5 x2 (.slice (some ⟨wc.heap.size,0,none⟩) 2 2) (wc.alloc (.cells #[nPtr p3,nPtr pb] 22)) ⟨_,_,_,rfl⟩);go_wp2_with fail;refine cm HC.out ?_;rintro e wn ⟨rfl,rfl⟩;clear HC
  go_wp2_with fail;go_ret;obtain⟨m1,m2,m3⟩:=made HRc.out HAc.out (NAts.pair (I:=From w.heap.size) HNP.out HNB.out) (by simp[maxLen]) #[nPtr p3,nPtr pb] rfl 2 rfl 5 x2 (wc.heap.size+1) rfl
  exact ppOk HS.out.symm m1.nv m2 m3
 ):G:=h
theorem zrqt.zrcwX {G:Prop}(h:G:=by
  exact zeal
 ):G:=h
theorem zrqt.zrdmX {G:Prop}(h:G:=by
  clear hrd ha HA1 HR1;exact zeai
 ):G:=h
theorem zrqt.zrcfX {G:Prop}(h:G:=by
  cases hr:nameP c.l j1 with
  | out=>
   exact zbal
  | bad er p=>
   have HC:=hide (name_any c w1 j1 d HR1.out);exact zbcn
  | ok x2 j2=>
   have HC:=hide (name_any c w1 j1 d HR1.out);exact zrdm
 ):G:=h
theorem zrqu.zrciX {G:Prop}(h:G:=by
  have HC:=hide (node_any 37 x2 (.slice (some ⟨wc.heap.size,0,none⟩) 2 2) (wc.alloc (.cells #[nPtr p3,nPtr pb] 22)) ⟨_,_,_,rfl⟩);go_wp2_with fail;refine cm HC.out ?_;rintro e wn ⟨rfl,rfl⟩;clear HC
  go_wp2_with fail;go_ret;obtain⟨m1,m2,m3⟩:=made HRc.out HAc.out (NAts.pair (I:=From w.heap.size) HNP.out HNB.out) (by simp[maxLen]) #[nPtr p3,nPtr pb] rfl 2 rfl 37 x2 (wc.heap.size+1) rfl
  exact ppOk HS.out.symm m1.nv m2 m3
 ):G:=h
theorem zrqu.zrcwX {G:Prop}(h:G:=by
  exact zeal
 ):G:=h
theorem zrqu.zrcfX {G:Prop}(h:G:=by
  have HC:=hide (atName_any c w1 j1 d HR1.out)
  cases hb:isName c.l j1 with
  | true=>
   rw[hb] at HC HS;rw[if_pos rfl] at HS;clear hb;go_wp2_with fail;refine cm HC.out ?_;rintro e wq ⟨rfl,hbq⟩;clear HC;have HAq:=hide (HA1.out.next (Ap.of hbq));have HRq:=hide (HR1.out.later hbq)
   clear hbq HA1 HR1
   cases hr:nameP c.l j1 with
   | out=>
    exact zbal
   | bad er p=>
    have HC:=hide (name_any c wq j1 d HRq.out);exact zbdr
   | ok x2 j2=>
    have HC:=hide (name_any c wq j1 d HRq.out);rw[hr] at HC HS;simp only[bind_ok] at HS;clear hr;go_wp2_with fail;refine cm HC.out ?_;intro e w2 hp;obtain⟨⟨v2,rfl,rfl⟩,hrd,ha⟩:=hp;clear HC
    have HA2:=hide (HAq.out.next ha);have HR2:=hide hrd;clear hrd ha HAq HRq;exact zeai
  | false=>
   rw[hb] at HC HS;rw[if_neg (by decide)] at HS;clear hb;go_wp2_with fail;refine cm HC.out ?_;rintro e wq ⟨rfl,hbq⟩;clear HC;have HAq:=hide (HA1.out.next (Ap.of hbq));have HRq:=hide (HR1.out.later hbq)
   clear hbq HA1 HR1
   cases hr:paramsP c.l F j1 with
   | out=>
    exact zbal
   | bad er p=>
    have HC:=hide (params_at (F:=F) wq d j1 (by rw[hr];nofun) HRq.out)
    exact zbdr
   | ok x2 j2=>
    have HC:=hide (params_at (F:=F) wq d j1 (by rw[hr];nofun) HRq.out)
    rw[hr] at HC HS;simp only[bind_ok] at HS;clear hr;go_wp2_with fail;refine cm HC.out ?_;intro e w2 hp;obtain⟨⟨v2,rfl,p2,rfl,hn2⟩,hrd,ha⟩:=hp;clear HC;have HA2:=hide (HAq.out.next ha)
    have HR2:=hide hrd;have HN2:=hide (nat_mono hn2 HAq.out.size);clear hn2;clear hrd ha HAq HRq;have HNP:=hide (NAt.mono (J:=fun b=>w.heap.size≤b∧b<w2.heap.size) (fun _ hb hl=>⟨hb,hl⟩) _ _ HN2.out)
    cases hr:blockP c.l F d j2 with
    | out=>
     exact zbal
    | bad er p=>
     have HC:=hide (block_any hF hN w2 d j2 _ rfl (by rw[hr];nofun) HR2.out)
     exact zbcm
    | ok tb jb=>
     have HX:=hide (blockP_exprOk hK hr);have HC:=hide (block_any hF hN w2 d j2 _ rfl (by rw[hr];nofun) HR2.out)
     rw[hr] at HC HS;simp only[bind_ok] at HS;clear hr;go_wp2_with fail;refine cm HC.out ?_;intro e wb hp;obtain⟨⟨vb,rfl,hn⟩,hrd,ha⟩:=hp;clear HC;have HAb:=hide (HA2.out.next ha);have HRb:=hide hrd
     have HLb:=hide HLT.out;replace HNP:=hide (NAt.later (fun b hb _=>ha.block b hb.2 (by have h1:=unhide HLT;have h2:=hb.1;omega)) _ _ HNP.out)
     have HC:=hide (code_any w2.heap.size tb vb wb hn HX.out);clear hn hrd ha;go_wp2_with fail;refine cm HC.out ?_;rintro e wc ⟨rfl,hev,hbw⟩;clear HC
     have HAc:=hide (HAb.out.trans ((Ap.of hbw).mono HA2.out.size));have HRc:=hide (HRb.out.ap hbw HR2.out.base.size);replace HNP:=hide (NAt.later (fun b hb _=>hbw.block b hb.2) _ _ HNP.out)
     obtain⟨pb,rfl,hnb⟩:=hev.nv;have HNB:=hide (NAt.mono (J:=fun b=>From w.heap.size b∧w2.heap.size≤b) (fun _ hb _=>⟨Nat.le_trans HA2.out.size hb,hb⟩) _ _ hnb);clear hev hbw hnb
     have HC:=hide (node_any 37 noText (.slice (some ⟨wc.heap.size,0,none⟩) 2 2) (wc.alloc (.cells #[nPtr p2,nPtr pb] 22)) ⟨_,_,_,rfl⟩);go_wp2_with fail;refine cm HC.out ?_;rintro e wn ⟨rfl,rfl⟩;clear HC
     go_wp2_with fail;go_ret;obtain⟨m1,m2,m3⟩:=made HRc.out HAc.out (NAts.pair (I:=From w.heap.size) HNP.out HNB.out) (by simp[maxLen]) #[nPtr p2,nPtr pb] rfl 2 rfl 37 noText (wc.heap.size+1) rfl
     exact ppOk HS.out.symm m1.nv m2 m3
 ):G:=h
theorem zrqv.zrdmX {G:Prop}(h:G:=by
  replace HN1:=hide (nat_later HN1.out ha HLT.out);clear hrd ha HA1 HR1;have HC:=hide (node_any 15 noText (.slice (some ⟨w2.heap.size,0,none⟩) 1 1) (w2.alloc (.cells #[nPtr p1] 22)) ⟨_,_,_,rfl⟩)
  go_wp2_with fail;refine cm HC.out ?_;rintro e wn ⟨rfl,rfl⟩;clear HC;go_wp2_with fail;go_ret
  obtain⟨m1,m2,m3⟩:=made HR2.out HA2.out (NAts.cons HN1.out NAts.nil) (by simp[maxLen]) #[nPtr p1] rfl 1 rfl 15 noText (w2.heap.size+1) rfl;exact ppOk HS.out.symm m1.nv m2 m3
 ):G:=h
theorem zrqv.zrsX {G:Prop}(h:G:=by
  cases hr:deepP c.l F.vl d i with
  | out=>
   exact zbal
  | bad er p=>
   have HC:=hide (deepV hF wq d i HRq.out (by rw[hr];nofun))
   exact zbdr
  | ok x1 j1=>
   have HC:=hide (deepV hF wq d i HRq.out (by rw[hr];nofun))
   rw[hr] at HC HS;simp only[bind_ok] at HS;clear hr;go_wp2_with fail;refine cm HC.out ?_;intro e w1 hp;obtain⟨⟨v1,rfl,p1,rfl,hn1⟩,hrd,ha⟩:=hp;clear HC;have HA1:=hide (HAq.out.next ha)
   have HR1:=hide hrd;have HN1:=hide (nat_mono hn1 HAq.out.size);clear hn1;clear hrd ha HAq HRq
   cases hr:mustP c.l tSemi j1 with
   | out=>
    exact zbal
   | bad er p=>
    have HC:=hide (must_any c tSemi w1 j1 d HR1.out (by decide));exact zbcn
   | ok x2 j2=>
    have HC:=hide (must_any c tSemi w1 j1 d HR1.out (by decide));exact zrdm
 ):G:=h
theorem zrqv.zrdqX {G:Prop}(h:G:=by
  exact zrs
 ):G:=h
theorem zrqw.zrdqX {G:Prop}(h:G:=by
  exact zbbh
 ):G:=h
theorem zrqx.zrfX {G:Prop}(h:G:=by
  have hi:=unhide HJ;obtain⟨hsr,hsa⟩:=stepped HRwt.out HAwt.out hi
  have HX:=hide (madeN (hsr.alloc (.cells #[.int .i64 (tkA c.l i).kd,.string (tkA c.l i).tx,.int .i64 (tkA c.l i).n,.int .i64 ((tkA c.l i).pl:Int)] 138)) (hsa.alloc hsa.size (.cells #[.int .i64 (tkA c.l i).kd,.string (tkA c.l i).tx,.int .i64 (tkA c.l i).n,.int .i64 ((tkA c.l i).pl:Int)] 138)) 23 (tkA c.l i).tx 0 (wt.heap.size+1) (by simp))
  clear hsr hsa
  have HC:=hide (node_any 23 (tkA c.l i).tx (.slice none 0 0) (wt.alloc (.cells #[.int .i64 (tkA c.l i).kd,.string (tkA c.l i).tx,.int .i64 (tkA c.l i).n,.int .i64 ((tkA c.l i).pl:Int)] 138)) ⟨_,_,_,rfl⟩)
  exact zbdh
 ):G:=h
theorem zrqx.zrbgX {G:Prop}(h:G:=by
  exact zrf
 ):G:=h
theorem zrqx.zrbtX {G:Prop}(h:G:=by
  clear hsg;have HJ:=hide (next_lt h.base.ends h.lt (by rw[hk];decide))
  have b1:((tkA c.l i).kd==1)=true:=by rw[hk];decide
  have b4:((tkA c.l i).kd==4)=false:=by rw[hk];decide
  have b3:((tkA c.l i).kd==3)=false:=by rw[hk];decide
  clear hk;exact zrbg
 ):G:=h
theorem zrqy.zrfX {G:Prop}(h:G:=by
  have hi:=unhide HJ;obtain⟨hsr,hsa⟩:=stepped HRwt.out HAwt.out hi
  have HX:=hide (madeN (hsr.alloc (.cells #[.int .i64 (tkA c.l i).kd,.string (tkA c.l i).tx,.int .i64 (tkA c.l i).n,.int .i64 ((tkA c.l i).pl:Int)] 138)) (hsa.alloc hsa.size (.cells #[.int .i64 (tkA c.l i).kd,.string (tkA c.l i).tx,.int .i64 (tkA c.l i).n,.int .i64 ((tkA c.l i).pl:Int)] 138)) 18 (tkA c.l i).tx 0 (wt.heap.size+1) (by simp))
  clear hsr hsa
  have HC:=hide (node_any 18 (tkA c.l i).tx (.slice none 0 0) (wt.alloc (.cells #[.int .i64 (tkA c.l i).kd,.string (tkA c.l i).tx,.int .i64 (tkA c.l i).n,.int .i64 ((tkA c.l i).pl:Int)] 138)) ⟨_,_,_,rfl⟩)
  exact zbdh
 ):G:=h
theorem zrqy.zrbgX {G:Prop}(h:G:=by
  exact zrf
 ):G:=h
theorem zrqy.zrbtX {G:Prop}(h:G:=by
  clear hsg;have HJ:=hide (next_lt h.base.ends h.lt (by rw[hk];decide))
  have b1:((tkA c.l i).kd==1)=false:=by rw[hk];decide
  have b4:((tkA c.l i).kd==4)=true:=by rw[hk];decide
  have b3:((tkA c.l i).kd==3)=false:=by rw[hk];decide
  clear hk;exact zrbg
 ):G:=h
theorem zrqz.zrfX {G:Prop}(h:G:=by
  have hi:=unhide HJ;obtain⟨hsr,hsa⟩:=stepped HRwt.out HAwt.out hi
  have HX:=hide (madeN (hsr.alloc (.cells #[.int .i64 (tkA c.l i).kd,.string (tkA c.l i).tx,.int .i64 (tkA c.l i).n,.int .i64 ((tkA c.l i).pl:Int)] 138)) (hsa.alloc hsa.size (.cells #[.int .i64 (tkA c.l i).kd,.string (tkA c.l i).tx,.int .i64 (tkA c.l i).n,.int .i64 ((tkA c.l i).pl:Int)] 138)) 17 noText (tkA c.l i).n (wt.heap.size+1) (by simp))
  clear hsr hsa;have HC:=hide (node_any 17 noText (.slice none 0 0) (wt.alloc (.cells #[.int .i64 (tkA c.l i).kd,.string (tkA c.l i).tx,.int .i64 (tkA c.l i).n,.int .i64 ((tkA c.l i).pl:Int)] 138)) ⟨_,_,_,rfl⟩)
  exact zbdh
 ):G:=h
theorem zrqz.zrbgX {G:Prop}(h:G:=by
  exact zrf
 ):G:=h
theorem zrqz.zrbtX {G:Prop}(h:G:=by
  clear hsg;have HJ:=hide (next_lt h.base.ends h.lt (by rw[hk];decide))
  have b1:((tkA c.l i).kd==1)=false:=by rw[hk];decide
  have b4:((tkA c.l i).kd==4)=false:=by rw[hk];decide
  have b3:((tkA c.l i).kd==3)=true:=by rw[hk];decide
  clear hk;exact zrbg
 ):G:=h
theorem zrqba.zrfX {G:Prop}(h:G:=by
  have HC:=hide (fault_any c 3 (wt.alloc (.cells #[.int .i64 (tkA c.l i).kd,.string (tkA c.l i).tx,.int .i64 (tkA c.l i).n,.int .i64 ((tkA c.l i).pl:Int)] 138)) i d HRt2.out);go_wp2_with fail;refine cm HC.out ?_
  rintro e w9 ⟨rfl,hb9⟩;exact⟨rfl,ppBad rfl (HAt2.out.next (Ap.of hb9))⟩
 ):G:=h
theorem zrqba.zrbgX {G:Prop}(h:G:=by
  exact zrf
 ):G:=h
theorem zrqba.zrbtX {G:Prop}(h:G:=by
  clear hsg;have b1:((tkA c.l i).kd==1)=false:=beq_eq_false_iff_ne.2 h1;have b4:((tkA c.l i).kd==4)=false:=beq_eq_false_iff_ne.2 h4;have b3:((tkA c.l i).kd==3)=false:=beq_eq_false_iff_ne.2 h3
  clear h1 h3 h4;exact zrbg
 ):G:=h
theorem zrqbb.zrboX {G:Prop}(h:G:=by
  have hi:=unhide HJ;obtain⟨hsr,hsa⟩:=stepped HRwt.out HAwt.out hi
  have HX:=hide (madeN (hsr.alloc (.cells #[.int .i64 (tkA c.l i).kd,.string (tkA c.l i).tx,.int .i64 (tkA c.l i).n,.int .i64 ((tkA c.l i).pl:Int)] 138)) (hsa.alloc hsa.size (.cells #[.int .i64 (tkA c.l i).kd,.string (tkA c.l i).tx,.int .i64 (tkA c.l i).n,.int .i64 ((tkA c.l i).pl:Int)] 138)) x.kd noText 0 (wt.heap.size+1) (by simp))
  clear hsr hsa
  have HC:=hide (node_any x.kd noText (.slice none 0 0) (wt.alloc (.cells #[.int .i64 (tkA c.l i).kd,.string (tkA c.l i).tx,.int .i64 (tkA c.l i).n,.int .i64 ((tkA c.l i).pl:Int)] 138)) ⟨_,_,_,rfl⟩);exact zbdh
 ):G:=h
theorem zrqbb.zrsX {G:Prop}(h:G:=by
  have HC:=hide (sign_any c 0 wq i d HRq.out);rw[HSG.out] at HC;simp only[sgVO,sgV,Option.isSome] at HC;go_wp2_with fail;refine cm HC.out ?_;rintro e ws ⟨rfl,hbws⟩;clear HC
  have HAws:=hide (HAq.out.next (Ap.of hbws));have HRws:=hide (HRq.out.later hbws);clear hbws HRq HAq
  have HAs2:=hide (HAws.out.alloc HAws.out.size (.cells #[.string x.tx,.int .i64 x.kd,.int .i64 x.parts,.int .i64 x.str] 189))
  have HRs2:=hide (HRws.out.alloc (.cells #[.string x.tx,.int .i64 x.kd,.int .i64 x.parts,.int .i64 x.str] 189))
  have hs0:(ws.alloc (.cells #[.string x.tx,.int .i64 x.kd,.int .i64 x.parts,.int .i64 x.str] 189)).heap[ws.heap.size]? = some (.cells #[.string x.tx,.int .i64 x.kd,.int .i64 x.parts,.int .i64 x.str] 189):=heap_new _ _
  have HS0:=hide hs0;clear hs0;have HC:=hide (token_any c (ws.alloc (.cells #[.string x.tx,.int .i64 x.kd,.int .i64 x.parts,.int .i64 x.str] 189)) i d HRs2.out);unfold tkV at HC;go_wp2_with fail
  refine cm HC.out ?_;rintro e wt ⟨rfl,hbwt⟩;clear HC;have HAwt:=hide (HAs2.out.next (Ap.of hbwt));have HRwt:=hide (HRs2.out.later hbwt);have hp0:=(hbwt.block ws.heap.size (by simp)).trans HS0.out
  obtain⟨k0,k1,k2,k3,kf,klt⟩:=c160 hp0;have hc1:=HRwt.out.c1;have hcz:=HRwt.out.fz;have hcl:=HRwt.out.rlt;clear hbwt hp0;exact zrbo
 ):G:=h
theorem zrqbb.zrbiX {G:Prop}(h:G:=by
  exact zrs
 ):G:=h
theorem zrqbb.zrbtX {G:Prop}(h:G:=by
  have HJ:=hide (sgP_lt h.base.ends h.lt hsg);clear hsg;clear h;exact zrbi
 ):G:=h
theorem zrqbc.zrbiX {G:Prop}(h:G:=by
  exact zbbh
 ):G:=h
theorem zrqbd.zrboX {G:Prop}(h:G:=by
  have HPT:Hid ((wt.alloc (.cells #[.int .i64 (tkA c.l i).kd,.string (tkA c.l i).tx,.int .i64 (tkA c.l i).n,.int .i64 ((tkA c.l i).pl:Int)] 138)).heap[wt.heap.size]? = some (.cells #[.int .i64 (tkA c.l i).kd,.string (tkA c.l i).tx,.int .i64 (tkA c.l i).n,.int .i64 ((tkA c.l i).pl:Int)] 138)):=heap_new _ _
  have HTL:Hid (c.R<wt.heap.size):=Nat.lt_of_lt_of_le HLT.out HAwt.out.size;clear HRwt HAwt
  cases hr:F.pr 2 d i with
  | out=>
   exact zbal
  | bad er p=>
   have HC:=hide (hF.pr 2 (by decide) (by decide) (wt.alloc (.cells #[.int .i64 (tkA c.l i).kd,.string (tkA c.l i).tx,.int .i64 (tkA c.l i).n,.int .i64 ((tkA c.l i).pl:Int)] 138)) d i _ rfl (by rw[hr];nofun) HRt2.out)
   rw[hr] at HC HS;simp only[bind_bad] at HS;clear hr;go_wp2_with fail;refine cm HC.out ?_;intro e w' hp;obtain⟨rfl,ha⟩:=hp;exact⟨rfl,ppBad HS.out.symm (HAt2.out.next ha)⟩
  | ok x1 j1=>
   have HC:=hide (hF.pr 2 (by decide) (by decide) (wt.alloc (.cells #[.int .i64 (tkA c.l i).kd,.string (tkA c.l i).tx,.int .i64 (tkA c.l i).n,.int .i64 ((tkA c.l i).pl:Int)] 138)) d i _ rfl (by rw[hr];nofun) HRt2.out)
   rw[hr] at HC HS;simp only[bind_ok] at HS;clear hr;go_wp2_with fail;refine cm HC.out ?_;intro e w1 hp;obtain⟨⟨v1,rfl,p1,rfl,hn1⟩,hrd,ha⟩:=hp;clear HC;have HA1:=hide (HAt2.out.next ha)
   have HR1:=hide hrd;have HN1:=hide (nat_mono hn1 HAt2.out.size);clear hn1;replace HPT:=hide ((ha.block _ (lt_of_heap HPT.out) (by have:=unhide HTL;omega)).trans HPT.out)
   clear hrd ha HAt2 HRt2;have HC:=hide (fixed_any c w1 j1 d HR1.out);go_wp2_with fail;refine cm HC.out ?_;rintro e wf ⟨rfl,hbwf⟩;clear HC;have HAwf:=hide (HA1.out.next (Ap.of hbwf))
   have HRwf:=hide (HR1.out.later hbwf);replace HN1:=hide (nat_later HN1.out (Ap.of hbwf) HLT.out);replace HPT:=hide ((hbwf.block _ (lt_of_heap HPT.out)).trans HPT.out);clear hbwf HR1 HA1
   by_cases hx:fx c.l j1=tEq
   ·rw[if_pos hx] at HS;have bx:((fx c.l j1).toList==[61])=true:=tl_eqL (b:=tEq) rfl hx;have HXX:=hide hx;have HMU:Hid (mustP c.l tEq j1=.ok () (j1+1)):=by
     show _=_
     unfold mustP;rw[if_pos hx]
    clear hx;obtain⟨u1,qs,hu1,_,_⟩:=HN1.out.opens;obtain⟨f10,_,_,_,_⟩:=node_cells hu1;clear hu1
    by_cases h23:x1.kd=23
    ·have b23:(x1.kd != 23)=false:=by rw[h23];rfl
     rw[if_pos (Or.inl h23)] at HS;clear h23;exact zcav
    ·have b23:(x1.kd != 23)=true:=bne_iff_ne.2 h23
     by_cases h36:x1.kd=36
     ·have b36:(x1.kd != 36)=false:=by rw[h36];rfl
      rw[if_pos (Or.inr h36)] at HS;clear h23 h36;exact zcav
     ·have b36:(x1.kd != 36)=true:=bne_iff_ne.2 h36;rw[if_neg (fun hh=>hh.elim h23 h36)] at HS;clear h23 h36;obtain⟨t0,t1,t2,t3,tf,tlt⟩:=c113 HPT.out;have HC:=hide (failAt_any c 1 (tkA c.l i) wf)
      unfold tkV at HC;go_wp2_with fail;refine cm HC.out ?_;rintro e w9 ⟨rfl,hb9⟩;exact⟨rfl,ppBad HS.out.symm (HAwf.out.next (Ap.of hb9))⟩
   ·rw[if_neg hx] at HS;have bx:((fx c.l j1).toList==[61])=false:=tl_neL (b:=tEq) rfl hx;clear hx;go_wp2_with fail;go_ret;exact ppOk HS.out.symm ⟨p1,rfl,HN1.out⟩ HRwf.out HAwf.out
 ):G:=h
theorem zrqbe.zrdoX {G:Prop}(h:G:=by
  refine wh 2 (rPtr c) HX3.out ?_;refine wh 3 (rPtr c) HX3.out ?_;refine wh 4 (.func (.func 292) #[rPtr c] #[]) HX3.out ?_;refine wq1 5 fun K hK=>?_;go_simp;refine cm HC.out ?_;intro e w1 hp
  obtain⟨⟨v1,rfl,p1,rfl,hn1⟩,hrd,ha⟩:=hp;clear HC;have HA1:=hide (HX2.out.next ha);have HR1:=hide hrd;have HN1:=hide (nat_mono hn1 HX2.out.size)
  have HS1:=hide ((ha.block _ (lt_of_heap HX3.out) (by have:=unhide HTL;omega)).trans HX3.out)
  clear hn1 hrd ha;refine hK.out _ _ HS1.out (fun _=>?_);clear hK K;refine wq1 6 fun K hK=>?_;go_simp;have HS2:=hide ((Below.heap_alloc w1 (.cells #[nPtr p1] 22) _ (lt_of_heap HS1.out)).trans HS1.out)
  refine hK.out _ _ HS2.out (fun _=>?_);clear hK K;refine wq1 7 fun K hK=>?_;go_simp;refine cm (node_any x.kd noText (.slice (some ⟨w1.heap.size,0,none⟩) 1 1) (w1.alloc (.cells #[nPtr p1] 22)) ⟨_,_,_,rfl⟩) ?_
  rintro e wn ⟨rfl,rfl⟩;have HS3:=hide ((Below.heap_alloc (w1.alloc (.cells #[nPtr p1] 22)) (nodeObj x.kd noText 0 (.slice (some ⟨w1.heap.size,0,none⟩) 1 1)) _ (lt_of_heap HS2.out)).trans HS2.out)
  refine hK.out _ _ HS3.out (fun _=>?_);clear hK K;refine wh 8 (nPtr (w1.alloc (.cells #[nPtr p1] 22)).heap.size) HS3.out ?_;refine wpAnyH_done (by kernel_rfl) ?_ _;go_simp;go_wp2_with fail;go_ret
  obtain⟨m1,m2,m3⟩:=made HR1.out HA1.out (NAts.cons HN1.out NAts.nil) (by simp[maxLen]) #[nPtr p1] rfl 1 rfl x.kd noText (w1.heap.size+1) rfl;exact ppOk HS.out.symm m1.nv m2 m3
 ):G:=h
theorem zrqbe.zrdlX {G:Prop}(h:G:=by
  refine wh 2 (rPtr c) HX3.out ?_;refine wh 3 (rPtr c) HX3.out ?_;refine wh 4 (.func (.func 292) #[rPtr c] #[]) HX3.out ?_;refine wq1 5 fun K hK=>?_;go_simp;refine cm HC.out ?_;intro e w' hp;obtain⟨rfl,ha⟩:=hp
  exact⟨rfl,ppBad HS.out.symm (HX2.out.next ha)⟩
 ):G:=h
theorem zrqbf.zrdoX {G:Prop}(h:G:=by
  refine wh 2 (nPtr p0) HX3.out ?_;refine wh 3 (rPtr c) HX3.out ?_;refine wh 4 (.pointer (some ⟨ws.heap.size,3,none⟩)) HX3.out ?_
  refine wg 5 (.int .i64 x.str) rfl (Or.inl ⟨by kernel_rfl,fun W hW=>by obtain⟨_,_,_,kk,_,_⟩:=c160 hW;go_simp⟩) HX3.out ?_
  refine wg 6 (.int .i64 (x.str+1)) rfl (Or.inl ⟨by kernel_rfl,fun W _=>by have hw:IntKind.i64.wrap (x.str+1)=x.str+1:=(by rw[IntKind.wrap_i64];omega);go_simp;try exact hw⟩) HX3.out ?_
  refine wq1 7 fun K hK=>?_;go_simp;refine cm HC.out ?_;intro e w1 hp;obtain⟨⟨v1,rfl,p1,rfl,hn1⟩,hrd,ha⟩:=hp;clear HC;have HA1:=hide (HX2.out.next ha);have HR1:=hide hrd;have hj2:=hrd.lt
  replace HN2:=hide (nats_pair HN2.out ha HLT.out HX2.out.size hn1);have HS1:=hide ((ha.block _ (lt_of_heap HX3.out) (by have:=unhide HTL;omega)).trans HX3.out)
  clear hn1 hrd ha;refine hK.out _ _ HS1.out (fun _=>?_);clear hK K;refine wq1 8 fun K hK=>?_;go_simp;have HS2:=hide ((Below.heap_alloc w1 (.cells #[nPtr p0,nPtr p1] 22) _ (lt_of_heap HS1.out)).trans HS1.out)
  refine hK.out _ _ HS2.out (fun _=>?_);clear hK K;refine wq1 9 fun K hK=>?_;go_simp
  refine cm (node_any x.kd noText (.slice (some ⟨w1.heap.size,0,none⟩) 2 2) (w1.alloc (.cells #[nPtr p0,nPtr p1] 22)) ⟨_,_,_,rfl⟩) ?_;rintro e wn ⟨rfl,rfl⟩
  have HS3:=hide ((Below.heap_alloc (w1.alloc (.cells #[nPtr p0,nPtr p1] 22)) (nodeObj x.kd noText 0 (.slice (some ⟨w1.heap.size,0,none⟩) 2 2)) _ (lt_of_heap HS2.out)).trans HS2.out)
  refine hK.out _ _ HS3.out (fun _=>?_);clear hK K;refine wh 10 (nPtr (w1.alloc (.cells #[nPtr p0,nPtr p1] 22)).heap.size) HS3.out ?_;refine wpAnyH_done (by kernel_rfl) ?_ _;go_simp
  obtain⟨m1,m2,m3⟩:=made HR1.out HA1.out HN2.out (by simp[maxLen]) #[nPtr p0,nPtr p1] rfl 2 rfl x.kd noText (w1.heap.size+1) rfl;obtain⟨pm,hpm,hnm⟩:=m1.nv
  have hpe:pm=w1.heap.size+1:=by simpa[nPtr] using hpm.symm
  subst hpe;have HM1:=hide hnm;have HM2:=hide m2;have HM3:=hide m3;clear m1 m2 m3 hpm hnm;go_wp2_with fail
  go_roundw
  case rel=>exact⟨k,.mk x.kd noText 0 [t,u],j2,w1.heap.size+1,rfl,HQ.out,HM2.out,HM3.out,HM1.out⟩
  case measure=>rw[nxt_eq HM2.out,nxt_eq HRM.out];omega
 ):G:=h
theorem zrqbf.zrdlX {G:Prop}(h:G:=by
  refine wh 2 (nPtr p0) HX3.out ?_;refine wh 3 (rPtr c) HX3.out ?_;refine wh 4 (.pointer (some ⟨ws.heap.size,3,none⟩)) HX3.out ?_
  refine wg 5 (.int .i64 x.str) rfl (Or.inl ⟨by kernel_rfl,fun W hW=>by obtain⟨_,_,_,kk,_,_⟩:=c160 hW;go_simp⟩) HX3.out ?_
  refine wg 6 (.int .i64 (x.str+1)) rfl (Or.inl ⟨by kernel_rfl,fun W _=>by have hw:IntKind.i64.wrap (x.str+1)=x.str+1:=(by rw[IntKind.wrap_i64];omega);go_simp;try exact hw⟩) HX3.out ?_
  refine wq1 7 fun K hK=>?_;go_simp;refine cm HC.out ?_;intro e w' hp;obtain⟨rfl,ha⟩:=hp;exact⟨rfl,ppBad HQ.out.symm (HX2.out.next ha)⟩
 ):G:=h
theorem zrqbf.zrdgX {G:Prop}(h:G:=by
  clear hF;go_wp2_with fail
  go_loopw [5] (fun v wr=>∃ k t j p,v=nPtr p∧pairLoop c.l F b d k t j=r∧Rdr c wr j d∧Ap c.R w.heap.size w wr∧NAt (From w.heap.size) wr t p) (fun _ wr=>c.l.length - nxt c wr)
  case atStart=>exact⟨F.fuel,x1,j1,p1,rfl,HS.out,HR1.out,HA1.out,HN1.out⟩
  case round=>
   obtain⟨k,t,j,p0,rfl,hq,hrd,hap,hnt⟩:=hrel;clear HS HR1 HA1 HN1
   cases k with
   | zero=>exact absurd hq.symm HO.out
   | succ k=>
    have HR2:=hide hrd;have HRM:=hide hrd;have HA2:=hide hap;have HN2:=hide hnt;have hjl:=hrd.lt;have hL:=unhide HL;unfold pairLoop at hq
    cases hsg:sgP 2 (fx c.l j) with
    | none=>
     rw[hsg] at hq;have HQ:=hide hq;have HSG:=hide hsg;clear hq hrd hap hnt hsg;have HC:=hide (sign_any c 2 wr j d HR2.out);rw[HSG.out] at HC;simp only[sgVO,noSg,Option.isSome] at HC;go_wp2_with fail
     refine cm HC.out ?_;rintro e ws ⟨rfl,hbws⟩;clear HC;have HAws:=hide (HA2.out.next (Ap.of hbws));have HRws:=hide (HR2.out.later hbws);replace HN2:=hide (nat_later HN2.out (Ap.of hbws) HLT.out);clear hbws
     have HAs2:=hide (HAws.out.alloc HAws.out.size (.cells #[.string ⟨#[]⟩,.int .i64 0,.int .i64 0,.int .i64 0] 189))
     have HRs2:=hide (HRws.out.alloc (.cells #[.string ⟨#[]⟩,.int .i64 0,.int .i64 0,.int .i64 0] 189))
     replace HN2:=hide (nat_later HN2.out (Ap.of ((Below.refl _ _).alloc (Nat.le_refl _) (.cells #[.string ⟨#[]⟩,.int .i64 0,.int .i64 0,.int .i64 0] 189))) HLT.out);go_wp2_with fail;go_ret
     exact ppOk HQ.out.symm ⟨p0,rfl,HN2.out⟩ HRs2.out HAs2.out
    | some x=>
     rw[hsg] at hq
     dsimp only at hq
     have HSG:=hide hsg;have hi:=sgP_lt HE.out hjl hsg;obtain⟨hx2,hx7⟩:=sg2 hsg;clear hrd hap hnt hsg
     by_cases hle:x.str<b
     ·rw[if_pos hle] at hq;have HQ:=hide hq;clear hq;have HC:=hide (sign_any c 2 wr j d HR2.out);rw[HSG.out] at HC;simp only[sgVO,sgV,Option.isSome] at HC;go_wp2_with fail;refine cm HC.out ?_
      rintro e ws ⟨rfl,hbws⟩;clear HC;have HAws:=hide (HA2.out.next (Ap.of hbws));have HRws:=hide (HR2.out.later hbws);replace HN2:=hide (nat_later HN2.out (Ap.of hbws) HLT.out);clear hbws
      have HAs2:=hide (HAws.out.alloc HAws.out.size (.cells #[.string x.tx,.int .i64 x.kd,.int .i64 x.parts,.int .i64 x.str] 189))
      have HRs2:=hide (HRws.out.alloc (.cells #[.string x.tx,.int .i64 x.kd,.int .i64 x.parts,.int .i64 x.str] 189))
      replace HN2:=hide (nat_later HN2.out (Ap.of ((Below.refl _ _).alloc (Nat.le_refl _) (.cells #[.string x.tx,.int .i64 x.kd,.int .i64 x.parts,.int .i64 x.str] 189))) HLT.out);go_wp2_with fail;go_ret
      exact ppOk HQ.out.symm ⟨p0,rfl,HN2.out⟩ HRs2.out HAs2.out
     ·rw[if_neg hle] at hq;have HQ:=hide hq;clear hq;have HC:=hide (sign_any c 2 wr j d HR2.out);rw[HSG.out] at HC;simp only[sgVO,sgV,Option.isSome] at HC;go_wp2_with fail;refine cm HC.out ?_
      rintro e ws ⟨rfl,hbws⟩;clear HC;have HAws:=hide (HA2.out.next (Ap.of hbws));have HRws:=hide (HR2.out.later hbws);replace HN2:=hide (nat_later HN2.out (Ap.of hbws) HLT.out);have hc1:=HRws.out.c1
      have hcz:=HRws.out.fz;have hcl:=HRws.out.rlt;obtain⟨hx1,hxa,hx3⟩:=behindSign x HRws.out HAws.out hi;have HX1:=hide hx1;have HX2:=hide hxa;have HX3:=hide hx3
      have HTL:Hid (c.R<ws.heap.size):=hcl
      replace HN2:Hid (NAt (From w.heap.size) (((ws.setCell ⟨c.R,1,none⟩ (.int .i64 ((j:Int)+1))).alloc (.cells #[.string x.tx,.int .i64 x.kd,.int .i64 x.parts,.int .i64 x.str] 189)).drew) t p0):=nat_later (c:=c) HN2.out ⟨rfl,rfl,rfl,by simp,fun k hk hkr=>by
       show ((ws.setCell ⟨c.R,1,none⟩ (.int .i64 ((j:Int)+1))).alloc (.cells #[.string x.tx,.int .i64 x.kd,.int .i64 x.parts,.int .i64 x.str] 189)).heap[k]? = _
       rw[Below.heap_alloc _ _ k (by simpa using hk),Below.heap_setCell ws ⟨c.R,1,none⟩ _ k hkr]⟩ HLT.out
      clear hbws hx1 hxa hx3 HRws HAws
      cases hr:F.pr (x.str+1) d (j+1) with
      | out=>
       exact zbgo
      | bad er p=>
       have HC:=hide (HFC.out.pr (x.str+1) (by omega) (by omega) ((ws.setCell ⟨c.R,1,none⟩ (.int .i64 ((j:Int)+1))).alloc (.cells #[.string x.tx,.int .i64 x.kd,.int .i64 x.parts,.int .i64 x.str] 189)).drew d (j+1) _ rfl (by rw[hr];nofun) HX1.out)
       rw[hr] at HC HQ;simp only[bind_bad] at HQ;exact zrdl
      | ok u j2=>
       have HC:=hide (HFC.out.pr (x.str+1) (by omega) (by omega) ((ws.setCell ⟨c.R,1,none⟩ (.int .i64 ((j:Int)+1))).alloc (.cells #[.string x.tx,.int .i64 x.kd,.int .i64 x.parts,.int .i64 x.str] 189)).drew d (j+1) _ rfl (by rw[hr];nofun) HX1.out)
       have hgt:j+1<j2:=by
        obtain⟨kk,hkk⟩:=unhide HNX;exact((hkk.pr (x.str+1) d (j+1) hi).2 u j2 hr).1
       rw[hr] at HC HQ;simp only[bind_ok] at HQ;clear hr;exact zrdo
 ):G:=h
theorem zrqbg.zrehX {G:Prop}(h:G:=by
  obtain⟨W2,hW2⟩:∃ W2,W2=(((w1.setCell ⟨wq.heap.size,0,none⟩ (.string ⟨#[]⟩)).setCell ⟨wq.heap.size,1,none⟩ (.int .i64 0)).setCell ⟨wq.heap.size,2,none⟩ (.int .i64 0)).setCell ⟨wq.heap.size,3,none⟩ (.int .i64 0):=⟨_,rfl⟩
  obtain⟨hr2,hb2,⟨s0,s1,s2,s3,sf,slt⟩⟩:=w3_any (v0:=.string ⟨#[]⟩) (v1:=.int .i64 0) (v2:=.int .i64 0) (v3:=.int .i64 0) HR1.out HLO.out P1.out hW2;have HR2:=hide hr2
  have HW2:=hide (HB1.out.trans (hb2.mono HBq.out.size));rw[←hW2];clear hW2 hr2 hb2;exact zbfx
 ):G:=h
theorem zrqbg.zrcuX {G:Prop}(h:G:=by
  refine wg 6 (.tuple #[.agg #[.string ⟨#[]⟩,.int .i64 0,.int .i64 0,.int .i64 0],.bool false]) rfl (Or.inl ⟨by kernel_rfl,fun W hW=>by have hh:=HL2.out W hW;go_simp⟩) HR1.out ?_
  exact zreh
 ):G:=h
end Go.Proofs.YtoimgcjbcbhclaaGreatDoor
