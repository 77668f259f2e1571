/-
  The document's parser: a value with signs ahead of it, and what is asked of it.
-/
import Derived.Test.YtoimgcjbcbhclaaGreatDoorWt34
import Derived.Laws.OwnMore
import Derived.Test.YtoimgcjbcbhclaaGreatDoorWt22
set_option maxRecDepth 100000
set_option maxHeartbeats 16000000
namespace Go.Proofs.YtoimgcjbcbhclaaGreatDoor
open Go.RowKit
theorem run_app_zero {P:Program}{w:World}(base:Nat)(t ty e:TypeId)(i:TypeInfo)(size:Nat)(ht:P.underlying t=some (.slice e))(hi:P.info? e=some i)
  (v:Value) (n:Nat) (xs:List Value) (hown:w.ownsRow base e size v n xs) (ad:Option Addr) (k:Nat) :
  (Builtin.append_ #[t,t] ty #[v,.slice ad 0 k]).run P w=.ok v w:=by
 exact zbfd
theorem wpList_app_zero {P:Program}{w:World}{ops:Array Oper}{rest:List Oper}{o:Oper}{a:Act}{Q:Exit→Act→World→Prop}(hgd:o.guard=none)(s x:Operand)(t:TypeId)
  (ho:o.op=.call { callee:=.builtin .append,args:=#[s,x],argTypes:=#[t,t] })
  (base:Nat) (e:TypeId) (i:TypeInfo) (size:Nat) (ht:P.underlying t=some (.slice e)) (hi:P.info? e=some i)
  (v:Value) (n:Nat) (xs:List Value) (hs:a.eval s=v) (hown:w.ownsRow base e size v n xs) (ad:Option Addr) (m k:Nat) (hm:m=0) (hx:a.eval x=.slice ad m k)
  (h:wpList P ops Q rest (a.put o.dst v) w):wpList P ops Q (o::rest) a w:=by
 subst hm
 refine wpList_plain hgd fun K hK=>?_
 have hrun:=run_app_zero (P:=P) (w:=w) base t o.type e i size ht hi v n xs hown ad k
 unfold Oper.wp
 simp[execOp,ho,resolve,invoke,builtin,hs,hx,hrun,Result.andThen]
 exact hK _ _ h
theorem nv_at' {B:Nat}{w:World}{t:Tr}{q:Nat}(h:NV B w t (nPtr q)):NAt (fun b=>B≤b) w t q:=by
 exact zbhk
theorem own_one (w:World)(q:Nat){B:Nat}(hB:B≤w.heap.size):(w.alloc (.cells #[nPtr q] 22)).ownsRow B 22 1 (.slice (some ⟨w.heap.size,0,none⟩) 1 1) 1 [nPtr q]:=World.ownsRow_lit w #[nPtr q] 1 hB (by decide) rfl
theorem row_cells {B:Nat}{w:World}{g n cap:Nat}{ps:List Nat}(h:w.ownsRow B 22 1 (.slice (some ⟨g,0,none⟩) n cap) n (ps.map nPtr))(o:Obj):∀ j u,(ps.map nPtr)[j]? = some u→(w.alloc o).cell? ((⟨g,0,none⟩:Addr).add j)=some u:=by
 intro j u hj
 have h2:=h.alloc o
 have hl:j<n * 1:=by
  rw[←h.1];exact(List.getElem?_eq_some_iff.1 hj).1
 have h3:=h2.cellAt j hl
 exact zbet
theorem own_near {w:World}{b n k:Nat}(e:(Value.slice (some ⟨w.heap.size,0,none⟩) n k).ownBlock=some b):w.heap.size≤b:=by
 have e2:w.heap.size=b:=by simpa[Value.ownBlock] using e
 omega
theorem own_far {w:World}{b n k:Nat}(hl:b<w.heap.size):(Value.slice (some ⟨w.heap.size,0,none⟩) n k).ownBlock≠some b:=by
 intro e
 have e2:w.heap.size=b:=by simpa[Value.ownBlock] using e
 omega
theorem row_ones (ps:List Nat):∀ u ∈ ps.map nPtr,u.oneCell'=true:=by
 intro u hu
 obtain⟨p,_,rfl⟩:=List.mem_map.1 hu
 rfl
theorem uns_made2 (W:World)(N:Nat)(hN:N=W.heap.size):∃ m1 m2:Array MapEntry,
  (Instr.makeMap 89 none).run Tryz.prog W=.ok (.map (some N)) (W.alloc (.map #[] 0))
  ∧ (Instr.mapUpdate 89 (.map (some N)) (.string tNot) (.int .i64 32)).run Tryz.prog (W.alloc (.map #[] 0))=.ok () (W.alloc (.map m1 1))
  ∧ (Instr.mapUpdate 89 (.map (some N)) (.string tTypeof) (.int .i64 33)).run Tryz.prog (W.alloc (.map m1 1))=.ok () (W.alloc (.map m2 2))
  ∧ (Instr.mapUpdate 89 (.map (some N)) (.string tDelete) (.int .i64 34)).run Tryz.prog (W.alloc (.map m2 2))=.ok () (W.alloc (.map unM 3))
  ∧ (Instr.range 89 (.map (some N))).run Tryz.prog (W.alloc (.map unM 3))=.ok (.pointer (some ⟨N+1,0,none⟩)) ((W.alloc (.map unM 3)).alloc (.mapIter (some N) 3 #[] 3)):=by
 subst hN
 exact uns_made W
theorem unM_parts {e:MapEntry}(h:e ∈ unM.toList):∃ s kd,e.key=.string s∧e.val=.int .i64 kd∧s≠noText∧look2 uns s=some kd:=by
 rcases unM_mem h with ⟨h1,h2⟩|⟨h1,h2⟩|⟨h1,h2⟩
 all_goals
  exact⟨_,_,h1,h2,by decide,by decide +kernel⟩
structure Sgn (c:PC)(w:World)(d i:Nat)(seen:Array Nat)(W:World):Prop where
 itr:Itr (w.heap.size+1+1) seen W
 ps:Ps c W i 0 (-1)
 box:Box2 c w.heap.size (w.heap.size+1) d W
 ap:Ap c.P w.heap.size w W
 no:∀ e ∈ unM.toList,seen.contains e.born=true→e.key≠.string (fx c.l i)
section
variable {c:PC} {w:World} {d i:Nat} {seen:Array Nat}
include c w d i seen
theorem Sgn.all {W:World}(h:Sgn c w d i seen W)(h0:(leftOf unM seen).size=0):sgP 1 (fx c.l i)=none:=by
 have hall:∀ e ∈ unM.toList,e.key≠.string (fx c.l i):=by
  intro e he
  by_cases hc:seen.contains e.born=true
  ·exact h.no e he hc
  ·exfalso;have:e ∈ (leftOf unM seen).toList:=by
    unfold leftOf;rw[Array.toList_filter,List.mem_filter];exact⟨he,by simpa using hc⟩
   have h1:(leftOf unM seen).toList=[]:=List.length_eq_zero_iff.1 (by rw[Array.length_toList];exact h0)
   rw[h1] at this;cases this
 have hl:unM.toList=[⟨.string tNot,.int .i64 32,0⟩,⟨.string tTypeof,.int .i64 33,1⟩,⟨.string tDelete,.int .i64 34,2⟩]:=rfl
 rw[hl] at hall
 have n1:¬ fx c.l i=tNot:=fun hh=>hall _ (List.mem_cons_self) (by rw[hh])
 have n2:¬ fx c.l i=tTypeof:=fun hh=>hall _ (List.mem_cons_of_mem _ List.mem_cons_self) (by rw[hh])
 have n3:¬ fx c.l i=tDelete:=fun hh=>hall _ (List.mem_cons_of_mem _ (List.mem_cons_of_mem _ List.mem_cons_self)) (by rw[hh])
 have:=un_sg (fx c.l i)
 have e1:look2 uns (fx c.l i)=none:=by
  unfold look2 uns;simp[n1,n2,n3]
 rw[e1] at this
 cases hs:sgP 1 (fx c.l i) with
 | none=>rfl
 | some s=>rw[hs] at this;cases this
theorem Sgn.step {W X:World}{e:MapEntry}(h:Sgn c w d i seen W)(hx:Itr (w.heap.size+1+1) (seen.push e.born) X)(hb:∀ k,k≠w.heap.size+1+1+1→X.heap[k]? = W.heap[k]?)(ho:X.os=W.os)(ht:X.tape=W.tape)(hu:X.output=W.output)(hz:X.heap.size=W.heap.size)(hlo:c.lo≤w.heap.size) :
  Itr (w.heap.size+1+1) (seen.push e.born) X∧Ps c X i 0 (-1)∧Box2 c w.heap.size (w.heap.size+1) d X∧Ap c.P w.heap.size w X:=by
 have hB:∀ B,B≤w.heap.size+1+1→Below B W X:=fun B hB=>⟨ho,ht,hu,by omega,fun k hk=>hb k (by omega)⟩
 exact⟨hx,h.ps.ap (hB w.heap.size (by omega)) hlo,⟨h.box.p.below (hB _ (Nat.le_refl _)) (by omega),h.box.n.below (hB _ (Nat.le_refl _)) (by omega)⟩,h.ap.trans (Ap.of (hB w.heap.size (by omega)))⟩
end
theorem sgn_start (c:PC)(w:World)(d i:Nat)(h:Ps c w i 0 (-1)):Sgn c w d i #[] ((((w.alloc (boxA c)).alloc (boxB d)).alloc (.map unM 3)).alloc (.mapIter (some (w.heap.size+1+1)) 3 #[] 3)):=by
 have hP:=h.rlt
 refine⟨⟨?_,?_⟩,(((h.alloc _).alloc _).alloc _).alloc _,⟨⟨?_,by omega⟩,⟨?_,by omega⟩⟩,((((Ap.refl c.P w.heap.size w).alloc (Nat.le_refl _) _).alloc (by simp) _).alloc (by simp;omega) _).alloc (by simp;omega) _,fun e _ hc=>by simp at hc⟩
 ·exact new_obj (by simp)
 ·rw[Below.heap_alloc _ _ _ (by simp)];exact new_obj (by simp)
 ·rw[Below.heap_alloc _ _ _ (by simp <;> omega),Below.heap_alloc _ _ _ (by simp <;> omega),Below.heap_alloc _ _ _ (by simp)];exact new_obj rfl
 ·rw[Below.heap_alloc _ _ _ (by simp <;> omega),Below.heap_alloc _ _ _ (by simp)];exact new_obj (by simp)
theorem rsingle_any {c:PC}{F:Fns}(hF:RCt c F)(hN:∃ k,FNx c.l k F)(hK:FOk F)(w:World)(d i:Nat)(r:PR Tr)(hd:d≤30)(hs:r=rsingleP c.l F d i)(ho:r≠.out)(h:Ps c w i 0 (-1)) :
  Calls Tryz.prog 288 #[pPtr c,.int .i64 (d:Int)] w (QPost c w (NV w.heap.size) ZN r):=by
 have HLT:=hide h.rlt
 have HLO:=hide h.base.size
 have HO:=hide ho
 have HS:=hide hs
 have HST:=hide (sgn_start c w d i h)
 have HF:=hide hF
 have HNN:=hide hN
 have HKK:=hide hK
 obtain⟨m1,m2,e0,e1,e2,e3,e4⟩:=uns_made2 ((w.alloc (boxA c)).alloc (boxB d)) (w.heap.size+1+1) (by simp)
 clear h hs ho hF hN hK
 go_enter Tryz.func288,Tryz.ntmps288
 go_wp2_with fail
 clear e0 e1 e2 e3 e4
 go_loopg [] 3 (fun k wr=>∃ seen,(leftOf unM seen).size≤k∧Sgn c w d i seen wr)
 case atStart=>exact⟨#[],by decide +kernel,HST.out⟩
 case round=>
  clear HST;obtain⟨seen,hle,hsg⟩:=hrel
  rcases itr_step hsg.itr 0 with ⟨h0,hnx⟩|⟨e,he,X,hnx,hen,hit,hb,hox,htx,hux,hzx⟩
  ·have hno:=hsg.all h0;have HSG:=hide hsg;have hq:r=raskedP c.l F d i:=by have:=unhide HS;unfold rsingleP at this;rw[hno] at this;exact this
   unfold raskedP at hq;have HQ:=hide hq;have k0:=hsg.box.p.cell;have k1:=hsg.box.n.cell;clear hsg hq hno HS hle h0
   cases hr:raloneP c.l F d i with
   | out=>rw[hr] at HQ;exact absurd HQ.out HO.out
   | bad er pl=>
    have HC1:=hide (rfirst_any HF.out HNN.out HKK.out wr d i _ hd hr.symm (by nofun) HSG.out.ps);rw[hr] at HQ;have hq:r=.bad er pl:=unhide HQ;subst hq;clear hr HQ;go_wp2_with fail;refine cm HC1.out ?_
    rintro e w1 ⟨⟨v,rfl,q,rfl⟩,⟨j,hp1⟩,he,ha1⟩;have HP1:=hide hp1;have HA1:=hide (HSG.out.ap.next ha1);have k0:=(HSG.out.box.ap ha1).p.cell;have k1:=(HSG.out.box.ap ha1).n.cell
    have HC2:=hide (rok_old he hp1);clear hp1 ha1 HC1 HSG hnx;go_wp2_with fail;refine wp_loop_rounds 1 ?_;rw[rounds_succ];go_wp2_with fail;refine cm HC2.out ?_;rintro e w2 ⟨rfl,rfl⟩;clear HC2;exact zccc
   | ok t0 j0=>
    have HC1:=hide (rfirst_any HF.out HNN.out HKK.out wr d i _ hd hr.symm (by nofun) HSG.out.ps);rw[hr] at HQ;have HS2:Hid (raskedLoop c.l F d F.fuel t0 j0=r):=HQ.out.symm;clear hr HQ;go_wp2_with fail
    refine cm HC1.out ?_;rintro e w1 ⟨⟨v,rfl,q,rfl,hn1⟩,hp1,ha1⟩;have HP1:=hide hp1;have HN1:Hid (NV w.heap.size w1 t0 (nPtr q)):=NV.mono ⟨q,rfl,hn1⟩ HSG.out.ap.size;have HA1:=hide (HSG.out.ap.next ha1)
    have HB1:=hide (HSG.out.box.ap ha1);clear hp1 ha1 hn1 HC1 HSG hnx k0 k1;go_wp2_with fail
    go_loopg [7] F.fuel (fun k v wr=>((∃ t j,raskedLoop c.l F d k t j=r∧NV w.heap.size wr t v∧Ps c wr j 0 (-1))
     ∨ (∃ er pl,r=.bad er pl∧er≠0∧(∃ j,Ps c wr j er (pl:Int))∧ZN v))∧Ap c.P w.heap.size w wr∧Box2 c w.heap.size (w.heap.size+1) d wr)
    case atStart=>exact⟨Or.inl ⟨t0,j0,HS2.out,HN1.out,HP1.out⟩,HA1.out,HB1.out⟩
    case round=>
     clear HS2 HP1 HA1 HN1 HB1;obtain⟨hrel,hap,hbx⟩:=hrel;have k0:=hbx.p.cell;have HA:=hide hap;have HBX:=hide hbx;clear hap hbx;obtain⟨i0,hi0,hz0,hz1,hz2⟩:=info_parts info22
     rcases hrel with ⟨t,j,hq,hnv,hps⟩|⟨er,pl,hq,he,⟨j,hps⟩,q',rfl⟩
     ·obtain⟨k,rfl⟩:∃ k,gk=k+1:=by
       exact zbed
      obtain⟨q1,rfl,hn⟩:=hnv;have HN:Hid (NV w.heap.size wr t (nPtr q1)):=⟨q1,rfl,hn⟩;have HPS:=hide hps;have HC1:=hide (rok_new hps);unfold raskedLoop at hq
      by_cases hd1:fx c.l j=tDot
      ·rw[if_pos hd1] at hq;have HQ:=hide hq;have HC2:=hide (rskip_yes c wr j tDot (by decide) hd1 hps);clear hq hn hps hd1;go_wp2_with fail;refine cm HC1.out ?_;rintro e w2 ⟨rfl,rfl⟩;clear HC1
       go_wp2_with fail;refine cm HC2.out ?_;rintro e w3 ⟨rfl,hp3,ha3⟩;have HA3:=hide (HA.out.next ha3);have HB3:=hide (HBX.out.ap ha3);have HN3:=hide (NV.later HN.out ha3 HLT.out)
       have HC3:=hide (rident_any c w3 (j+1) hp3);clear hp3 ha3 HC2 HA HBX HN HPS k0;have k0:=HB3.out.p.cell;go_wp2_with fail;refine cm HC3.out ?_;intro e w4 hp;clear k0 HC3
       cases hr:nameP c.l (j+1) with
       | out=>rw[hr] at HQ;exact absurd HQ.out.symm HO.out
       | bad er pl=>
        rw[hr] at hp HQ;have HQQ:Hid (r=.bad er pl):=HQ.out.symm;obtain⟨⟨v,rfl,s,rfl⟩,⟨j4,hp4⟩,he,ha4⟩:=hp;have HP4:=hide hp4;have HA4:=hide (HA3.out.next ha4);have HB4:=hide (HB3.out.ap ha4)
        clear hp4 ha4 HA3 HB3 HN3 HQ hr;go_wp2_with fail
        go_roundg k
        case measure=>omega
        case rel=>exact⟨Or.inr ⟨er,pl,HQQ.out,he,⟨j4,(HP4.out.alloc _).alloc _⟩,_,rfl⟩,(HA4.out.alloc HA4.out.size _).alloc (by have:=HA4.out.size;simp;omega) _,HB4.out.ap (((Ap.refl c.P w4.heap.size w4).alloc (Nat.le_refl _) _).alloc (by simp) _)⟩
       | ok s j4=>
        rw[hr] at hp HQ;have HQQ:Hid (raskedLoop c.l F d k (.mk 36 s 0 [t]) j4=r):=unhide HQ;obtain⟨⟨v,rfl,rfl⟩,hp4,ha4⟩:=hp;have HP4:=hide hp4;have HA4:=hide (HA3.out.next ha4)
        have HB4:=hide (HB3.out.ap ha4);have HN4:=hide (nv_at' (NV.later HN3.out ha4 HLT.out));clear hp4 ha4 HA3 HB3 HN3 HQ hr;go_wp2_with fail
        go_roundg k
        case measure=>omega
        case rel=>exact⟨Or.inl ⟨_,j4,HQQ.out,(nv_row (NAts.cons HN4.out NAts.nil) HA4.out.size (by simp[maxLen]) #[nPtr q1] rfl 1 rfl 36 s 0 _ rfl).nv,(HP4.out.alloc _).alloc _⟩,(HA4.out.alloc HA4.out.size _).alloc (by have:=HA4.out.size;simp;omega) _,HB4.out.ap (((Ap.refl c.P w4.heap.size w4).alloc (Nat.le_refl _) _).alloc (by simp) _)⟩
      ·rw[if_neg hd1] at hq;have HC2:=hide (rskip_no c wr j tDot (by decide) hd1 hps);have HQ:=hide hq;clear hq hn hps hd1;go_wp2_with fail;refine cm HC1.out ?_;rintro e w2 ⟨rfl,rfl⟩;clear HC1
       go_wp2_with fail;refine cm HC2.out ?_;rintro e w3 ⟨rfl,hb3⟩;have HP3:=hide (HPS.out.later hb3);have HA3:=hide (HA.out.next (Ap.of hb3));have HB3:=hide (HBX.out.ap (Ap.of hb3))
       have HN3:=hide (NV.later HN.out (Ap.of (R:=c.P) hb3) HLT.out);clear hb3 HC2 HA HBX HN HPS k0;have k0:=HB3.out.p.cell
       by_cases hd2:fx c.l j=tOpen
       ·rw[if_pos hd2] at HQ;have HC3:=hide (rskip_yes c w3 j tOpen (by decide) hd2 HP3.out);clear hd2;go_wp2_with fail;refine cm HC3.out ?_;rintro e w4 ⟨rfl,hp4,ha4⟩;have HP4:=hide hp4
        have HA4:=hide (HA3.out.next ha4);have HB4:=hide (HB3.out.ap ha4);have HN4:=hide (NV.later HN3.out ha4 HLT.out);clear hp4 ha4 HC3 HA3 HB3 HN3 HP3 k0;have k0:=HB4.out.p.cell
        have hmx:max w.heap.size (w.heap.size+1)+1≤w4.heap.size:=by have:=HB4.out.n.lt;omega
        have HMX:=hide hmx;clear hmx
        cases hr:rargsP c.l F d (j+1) with
        | out=>rw[hr] at HQ;exact absurd HQ.out.symm HO.out
        | bad er pl=>
         have HC4:=hide (rlist_all (arg_part HF.out w.heap.size (w.heap.size+1) d hd) tShut (by decide) F.fuel w4 (j+1) _ hr.symm (by nofun) HB4.out HMX.out HP4.out);rw[hr] at HQ
         have HQQ:Hid (r=.bad er pl):=HQ.out.symm;clear hr HQ HMX;go_wp2_with fail;refine cm HC4.out ?_;rintro e w5 ⟨⟨v,rfl,zps,hzl,hzr⟩,⟨j5,hp5⟩,he,ha5⟩;obtain⟨za,zc,rfl⟩:=row_shut hzr
         have HP5:=hide hp5;have HA5:=hide (HA4.out.next ha5);have HB5:=hide (HB4.out.ap ha5);have HZR:=hide hzr;have hsz:=HA5.out.size;clear hp5 ha5 HC4 HA4 HB4 HN4 HP4 k0 hzr
         by_cases hz0':zps.length=0
         ·have HZ0:=hide hz0';clear hz0'
          go_wp2_with (at_builtin;refine wpList_app_zero rfl _ _ 46 rfl w.heap.size 22 i0 1 Tryz.underlying46 hi0 _ 1 [nPtr q1] rfl (own_one w5 q1 hsz) _ _ _ HZ0.out rfl ?_)
          go_wp2_with fail
          go_roundg k
          case measure=>omega
          case rel=>exact⟨Or.inr ⟨er,pl,HQQ.out,he,⟨j5,(HP5.out.alloc _).alloc _⟩,_,rfl⟩,(HA5.out.alloc HA5.out.size _).alloc (by have:=HA5.out.size;simp;omega) _,HB5.out.ap (((Ap.refl c.P w5.heap.size w5).alloc (Nat.le_refl _) _).alloc (by simp) _)⟩
         ·obtain⟨g,cap,hv,hgb,hgl⟩:=HZR.out.form (by omega)
          injection hv with hv1 _ hv3
          subst hv1 hv3
          go_wp2_with (at_builtin;refine wpList_append_lies _ rfl _ _ 46 rfl w.heap.size 22 i0 (.pointer none) 1 8 Tryz.underlying46 hi0 hz0 hz1 hz2 rfl (by decide) _ 1 [nPtr q1] rfl (own_one w5 q1 hsz) ⟨g,0,none⟩ zps.length _ (zps.map nPtr) rfl (by simp) (row_cells HZR.out _) (row_ones zps) (by omega) (by unfold maxLen;omega) (by omega) (by simp;omega) (w5.heap.size+1) (by simp) ?_)
          intro g' cap' w6 hown' hgrow hg' _;have HW6:=hide ((((Below.refl w5.heap.size w5).alloc (Nat.le_refl _) (.cells #[nPtr q1] 22)).grown hgrow (by simp) (fun k hk=>own_near hk)));clear hown' hgrow hg'
          go_wp2_with fail
          go_roundg k
          case measure=>omega
          case rel=>exact⟨Or.inr ⟨er,pl,HQQ.out,he,⟨j5,(HP5.out.later HW6.out).alloc _⟩,_,rfl⟩,(HA5.out.next (Ap.of HW6.out)).alloc (by have:=HA5.out.size;have:=HW6.out.size;omega) _,(HB5.out.ap (Ap.of HW6.out)).ap ((Ap.refl c.P w6.heap.size w6).alloc (Nat.le_refl _) _)⟩
        | ok ts j5=>
         have HC4:=hide (rlist_all (arg_part HF.out w.heap.size (w.heap.size+1) d hd) tShut (by decide) F.fuel w4 (j+1) _ hr.symm (by nofun) HB4.out HMX.out HP4.out);rw[hr] at HQ
         have HQQ:Hid (raskedLoop c.l F d k (.mk 35 noText 0 (t::ts)) j5=r):=unhide HQ;clear hr HQ HMX;go_wp2_with fail;refine cm HC4.out ?_;rintro e w5 ⟨⟨v,rfl,hkv,hle8⟩,hp5,ha5⟩
         have HN5:=hide (nv_at' (NV.later HN4.out ha5 HLT.out));obtain⟨ps,hzr,hks⟩:=hkv;obtain⟨za,zc,rfl⟩:=row_shut hzr;have hlen:=NAts.length _ _ hks
         have HTS:Hid (NAts (fun b=>w.heap.size≤b) w5 ([t]++ts) ([q1]++ps)):=nats_front HN4.out ha5 HLT.out HA4.out.size hks;have HP5:=hide hp5;have HA5:=hide (HA4.out.next ha5)
         have HB5:=hide (HB4.out.ap ha5);have HZR:=hide hzr;have hsz:=HA5.out.size;have hzl:ps.length≤8:=by omega
         clear hp5 ha5 HC4 HA4 HB4 HN4 HP4 k0 hzr hks hle8
         by_cases hz0':ps.length=0
         ·have hts:ts=[]:=List.length_eq_zero_iff.1 (by omega);subst hts;have HZ0:=hide hz0';clear hlen hz0' hzl
          go_wp2_with (at_builtin;refine wpList_app_zero rfl _ _ 46 rfl w.heap.size 22 i0 1 Tryz.underlying46 hi0 _ 1 [nPtr q1] rfl (own_one w5 q1 hsz) _ _ _ HZ0.out rfl ?_)
          go_wp2_with fail
          go_roundg k
          case measure=>omega
          case rel=>exact⟨Or.inl ⟨_,j5,HQQ.out,(nv_row (NAts.cons HN5.out NAts.nil) HA5.out.size (by simp[maxLen]) #[nPtr q1] rfl 1 rfl 35 noText 0 _ rfl).nv,(HP5.out.alloc _).alloc _⟩,(HA5.out.alloc HA5.out.size _).alloc (by have:=HA5.out.size;simp;omega) _,HB5.out.ap (((Ap.refl c.P w5.heap.size w5).alloc (Nat.le_refl _) _).alloc (by simp) _)⟩
         ·obtain⟨g,cap,hv,hgb,hgl⟩:=HZR.out.form (by omega)
          injection hv with hv1 _ hv3
          subst hv1 hv3;have HLEN:=hide hlen;clear hlen
          go_wp2_with (at_builtin;refine wpList_append_lies _ rfl _ _ 46 rfl w.heap.size 22 i0 (.pointer none) 1 8 Tryz.underlying46 hi0 hz0 hz1 hz2 rfl (by decide) _ 1 [nPtr q1] rfl (own_one w5 q1 hsz) ⟨g,0,none⟩ ps.length _ (ps.map nPtr) rfl (by simp) (row_cells HZR.out _) (row_ones ps) (by omega) (by unfold maxLen;omega) (by omega) (by simp;omega) (w5.heap.size+1) (by simp) ?_)
          intro g' cap' w6 hown' hgrow hg' _;have HW6:=hide ((((Below.refl w5.heap.size w5).alloc (Nat.le_refl _) (.cells #[nPtr q1] 22)).grown hgrow (by simp) (fun k hk=>own_near hk)))
          have HK6:Hid (KV w.heap.size w6 ([t]++ts) (.slice (some ⟨g',0,none⟩) (1+ps.length) cap')):=kv_push (v:=.slice (some ⟨w5.heap.size,0,none⟩) 1 1) (ps:=[q1]) (NAts.mono (fun b hb hl=>⟨hb,own_far hl⟩) _ _ HTS.out) (by rw[List.map_append];exact hown') (by simp;omega) hgrow hg'
          clear hown' hgrow hg';go_wp2_with fail
          go_roundg k
          case measure=>omega
          case rel=>exact⟨Or.inl ⟨_,j5,HQQ.out,(nv_kv HK6.out (by have:=HA5.out.size;have:=HW6.out.size;omega) 35 noText 0).nv,(HP5.out.later HW6.out).alloc _⟩,(HA5.out.next (Ap.of HW6.out)).alloc (by have:=HA5.out.size;have:=HW6.out.size;omega) _,(HB5.out.ap (Ap.of HW6.out)).ap ((Ap.refl c.P w6.heap.size w6).alloc (Nat.le_refl _) _)⟩
       ·rw[if_neg hd2] at HQ;have hq:r=.ok t j:=HQ.out.symm;subst hq;have HC3:=hide (rskip_no c w3 j tOpen (by decide) hd2 HP3.out);clear hd2 HQ;go_wp2_with fail;refine cm HC3.out ?_;rintro e w4 ⟨rfl,hb4⟩
        have HP4:=hide (HP3.out.later hb4);have HA4:=hide (HA3.out.next (Ap.of hb4));have HN4:=hide (NV.later HN3.out (Ap.of (R:=c.P) hb4) HLT.out);clear hb4 HC3 HA3 HN3 HP3;go_wp2_with fail;go_ret
        exact⟨⟨_,rfl,HN4.out⟩,HP4.out,HA4.out⟩
     ·have HC1:=hide (rok_old he hps);have HP1:=hide hps;clear hps;subst hq;go_wp2_with fail;refine cm HC1.out ?_;rintro e w2 ⟨rfl,rfl⟩;clear HC1;go_wp2_with fail;go_ret
      exact⟨⟨_,rfl,_,rfl⟩,⟨j,HP1.out⟩,he,HA.out⟩
  ·obtain⟨s',kd,hk,hv,hsn,hlk⟩:=unM_parts (left_mem he).1;rw[hk,hv] at hnx hen;obtain⟨q1,q2,q3,q4⟩:=hsg.step hit hb hox htx hux hzx HLO.out;have k0:=q3.p.cell;have k1:=q3.n.cell
   have HLF:=hide (left_push seen e he);have HPX:=hide q2;have HBX:=hide q3;have HAX:=hide q4;have HIX:=hide q1;have HSG:=hide hsg;have HE:=hide he;have HKE:=hide hk;have HLE:=hide hle
   clear hit hb hox htx hux hzx q1 q2 q3 q4 hsg he hk hv hle
   by_cases hx:fx c.l i=s'
   ·have HC1:=hide (rskip_yes c X i s' hsn hx HPX.out);have hsp:∃ sg,sgP 1 (fx c.l i)=some sg∧sg.kd=kd:=by
     have:=un_sg (fx c.l i);rw[hx,hlk] at this;rw[hx]
     cases hs:sgP 1 s' with
     | none=>rw[hs] at this;cases this
     | some sg=>rw[hs] at this;injection this with h1;exact⟨sg,rfl,h1.symm⟩
    obtain⟨sg,hsg1,hsg2⟩:=hsp;have hq:r=(deepP c.l F.sg d (i+1)).bind fun t i1=>.ok (.mk kd noText 0 [t]) i1:=by
     have:=unhide HS;unfold rsingleP at this;rw[hsg1] at this;rw[←hsg2];exact this
    unfold deepP at hq;have HQ:=hide hq;clear hq hsg1 hsg2 hx hlk hsn HIX HSG HE HKE HLE HLF HS
    by_cases h30:d=30
    ·rw[if_pos h30] at HQ;have hq:r=.bad 4 (tkA c.l (i+1)).pl:=unhide HQ;subst hq;have hdd:decide ((30:Int)<(d:Int)+1)=true:=decide_eq_true (by omega);clear h30 HQ;go_wp2_with fail
     refine cm HC1.out ?_;rintro e' w3 ⟨rfl,hp3,ha3⟩;have HA3:=hide (HAX.out.next ha3);have k0:=(HBX.out.ap ha3).p.cell;have k1:=(HBX.out.ap ha3).n.cell
     have HC2:=hide (rfail_new c w3 (i+1) 4 (by decide) hp3);clear hp3 ha3 HC1 hnx hen HPX;go_wp2_with fail;refine cm HC2.out ?_;rintro e' w4 ⟨⟨v,rfl,q,rfl⟩,hp4,he4,ha4⟩;have HP4:=hide hp4
     have HA4:=hide (HA3.out.next ha4);clear hp4 ha4 HC2;go_wp2_with fail;go_ret;exact⟨⟨_,rfl,_,rfl⟩,HP4.out,he4,HA4.out⟩
    ·rw[if_neg h30] at HQ;have hd2:d+1≤30:=by omega
     have hdd:decide ((30:Int)<(d:Int)+1)=false:=decide_eq_false (by omega);have hcast:(((d+1:Nat):Nat):Int)=(d:Int)+1:=by omega
     have HCA:=hide hcast;clear h30 hcast;go_wp2_with fail;refine cm HC1.out ?_;rintro e' w3 ⟨rfl,hp3,ha3⟩;have HP3:=hide hp3;have HA3:=hide (HAX.out.next ha3);have k0:=(HBX.out.ap ha3).p.cell
     have k1:=(HBX.out.ap ha3).n.cell;clear hp3 ha3 HC1 hnx hen HPX
     cases hr:F.sg (d+1) (i+1) with
     | out=>rw[hr] at HQ;exact absurd HQ.out HO.out
     | bad er pl=>
      have hc2:=HF.out.sg w3 (d+1) (i+1) _ hd2 hr.symm (by nofun) HP3.out;rw[HCA.out] at hc2;have HC2:=hide hc2;rw[hr] at HQ;have hq:r=.bad er pl:=unhide HQ;subst hq;clear hr HQ hc2;go_wp2_with fail
      refine cm HC2.out ?_;rintro e' w4 ⟨⟨v,rfl,q,rfl⟩,⟨j4,hp4⟩,he4,ha4⟩;have HP4:=hide hp4;have HA4:=hide (HA3.out.next ha4);clear hp4 ha4 HC2;go_wp2_with fail;go_ret
      exact⟨⟨_,rfl,_,rfl⟩,⟨j4,(HP4.out.alloc _).alloc _⟩,he4,(HA4.out.alloc HA4.out.size _).alloc (by have:=HA4.out.size;simp;omega) _⟩
     | ok t j2=>
      have hc2:=HF.out.sg w3 (d+1) (i+1) _ hd2 hr.symm (by nofun) HP3.out;rw[HCA.out] at hc2;have HC2:=hide hc2;rw[hr] at HQ;have hq:r=.ok (.mk kd noText 0 [t]) j2:=unhide HQ;subst hq;clear hr HQ hc2
      go_wp2_with fail;refine cm HC2.out ?_;rintro e' w4 ⟨⟨v,rfl,q,rfl,hn4⟩,hp4,ha4⟩;have HP4:=hide hp4;have HA4:=hide (HA3.out.next ha4)
      have HN4:Hid (NAt (fun b=>w.heap.size≤b) w4 t q):=NAt.mono (fun b hb _=>Nat.le_trans HA3.out.size hb) _ _ hn4;clear hp4 ha4 hn4 HC2;go_wp2_with fail;go_ret
      exact⟨⟨_,rfl,(nv_row (NAts.cons HN4.out NAts.nil) HA4.out.size (by simp[maxLen]) #[nPtr q] rfl 1 rfl kd noText 0 _ rfl).nv⟩,(HP4.out.alloc _).alloc _,(HA4.out.alloc HA4.out.size _).alloc (by have:=HA4.out.size;simp;omega) _⟩
   ·have HC1:=hide (rskip_no c X i s' hsn hx HPX.out);have HX:=hide hx;clear hx hlk hsn;go_wp2_with fail;refine cm HC1.out ?_;rintro e' w3 ⟨rfl,hb3⟩;have HB3:=hide hb3;clear hb3 HC1 hnx hen k0 k1
    go_wp2_with fail
    go_roundg ((leftOf unM (seen.push e.born)).size)
    case measure=>exact Nat.lt_of_lt_of_le HLF.out HLE.out
    case rel=>
     have hb3:=unhide HB3;have hi:=unhide HIX
     refine⟨seen.push e.born,Nat.le_refl _,⟨⟨(hb3.block _ (lt_of_heap hi.it)).trans hi.it,(hb3.block _ (lt_of_heap hi.mp)).trans hi.mp⟩,HPX.out.later hb3,HBX.out.ap (Ap.of hb3),HAX.out.next (Ap.of hb3),?_⟩⟩
     intro e2 he2 hc2 hk2;rw[Array.contains_push] at hc2
     cases hq:(e2.born==e.born) with
     | false=>
      rw[hq,Bool.or_false] at hc2;exact HSG.out.no e2 he2 hc2 hk2
     | true=>
      have hee:e2=e:=by
       have key:∀ a ∈ unM.toList,∀ b ∈ unM.toList,(a.born==b.born)=true→a=b:=by
        have hl:unM.toList=[⟨.string tNot,.int .i64 32,0⟩,⟨.string tTypeof,.int .i64 33,1⟩,⟨.string tDelete,.int .i64 34,2⟩]:=rfl;rw[hl];intro a ha b hb hab
        simp only[List.mem_cons,List.not_mem_nil,or_false] at ha hb
        rcases ha with rfl|rfl|rfl <;> rcases hb with rfl|rfl|rfl <;> first|rfl | (exact absurd hab (by decide))
       exact key e2 he2 e (left_mem HE.out).1 hq
      rw[hee,HKE.out] at hk2
      injection hk2 with hk3
      exact unhide HX hk3.symm
abbrev nd0:Obj:=nodeObj 0 noText 0 (.slice none 0 0)
structure Stn (c:PC)(w:World)(i:Nat)(W:World):Prop where
 ps:Ps c W i 0 (-1)
 nd:W.heap[w.heap.size]? = some nd0
 ap:Ap c.P w.heap.size w W
section
variable {c:PC} {w:World}
include c w
theorem Stn.new {i:Nat}(h:Ps c w i 0 (-1)):Stn c w i (w.alloc nd0):=⟨h.alloc _,heap_new _ _,(Ap.refl c.P w.heap.size w).alloc (Nat.le_refl _) _⟩
theorem Stn.below {i:Nat}{W W':World}(h:Stn c w i W)(hb:Below W.heap.size W W'):Stn c w i W':=⟨h.ps.later hb,(hb.block _ (lt_of_heap h.nd)).trans h.nd,h.ap.next (Ap.of hb)⟩
theorem Stn.on {i j:Nat}{W W':World}(h:Stn c w i W)(hP:c.P<w.heap.size)(hp:Ps c W' j 0 (-1))(ha:Ap c.P W.heap.size W W'):Stn c w j W':=⟨hp,(ha.block _ (lt_of_heap h.nd) (by omega)).trans h.nd,h.ap.next ha⟩
end
theorem st_done {B N:Nat}{W:World}{kd z:Int}{tx:ByteArray}{u:Value}{ps:List Nat}{ks:List Tr}(hB:B≤N)(hb:W.heap[N]? = some (nodeObj kd tx z u))(hr:W.ownsRow B 22 1 u ps.length (ps.map nPtr))(hk:NAts (fun b=>B≤b∧b≠N) W ks ps):NV B W (.mk kd tx z ks) (nPtr N):=by
 refine⟨N,rfl,?_⟩
 rw[NAt]
 exact⟨hB,u,ps,hb,⟨owns_zero hr,fun g hg=>(own_lt hr g hg).2⟩,hk⟩
theorem st_row {B N z4 n:Nat}{w5 X:World}{kd z:Int}{tx:ByteArray}{ks:List Tr}{ps:List Nat}(hBN:B≤N)(hN:N<z4)(hX:∀ b,b≠N→X.heap[b]? = w5.heap[b]?)(hz:X.heap.size=w5.heap.size)(h5:z4≤w5.heap.size)
  (nb:X.heap[N]? = some (nodeObj kd tx z (.slice (some ⟨w5.heap.size,0,none⟩) n n))) (hk:NAts (fun b=>z4≤b) w5 ks ps) (hn:n=ps.length) (cs:Array Value) (hc:cs.toList=ps.map nPtr) (hl:ps.length≤maxLen):NV B (X.alloc (.cells cs 22)) (.mk kd tx z ks) (nPtr N):=by
 subst hn
 have hcs:cs.size=ps.length * 1:=by rw[←Array.length_toList,hc];simp
 have ho:=World.ownsRow_lit (base:=B) (e:=22) (size:=1) X cs ps.length (by omega) hl hcs
 rw[hz,hc] at ho
 refine st_done hBN (by rw[Below.heap_alloc _ _ _ (by omega)];exact nb) ho ?_
 have hs:Stay (fun b=>z4≤b) w5 (X.alloc (.cells cs 22)):=fun b hb hl=>by rw[Below.heap_alloc _ _ _ (by omega)];exact hX b (by have:z4≤b:=hb;omega)
 exact NAts.mono (fun b hb _=>by have:z4≤b:=hb;exact⟨by omega,by omega⟩) _ _ (NAts.later hs _ _ hk)
theorem set2 (w5:World)(N:Nat)(a b:Value):∀ k,k≠N→((w5.setCell ⟨N,0,none⟩ a).setCell ⟨N,3,none⟩ b).heap[k]? = w5.heap[k]?:=fun k hk=>by rw[Below.heap_setCell _ _ _ k (by first|exact hk|exact Ne.symm hk),Below.heap_setCell _ _ _ k (by first|exact hk|exact Ne.symm hk)]
theorem set1 (w5:World)(N:Nat)(b:Value):∀ k,k≠N→(w5.setCell ⟨N,3,none⟩ b).heap[k]? = w5.heap[k]?:=fun k hk=>by rw[Below.heap_setCell _ _ _ k (by first|exact hk|exact Ne.symm hk)]
theorem owns_nil {B:Nat}{W:World}:W.ownsRow B 22 1 (.slice none 0 0) ([]:List Nat).length (([]:List Nat).map nPtr):=⟨rfl,Or.inl ⟨rfl,rfl⟩⟩
section
variable {c:PC} {F:Fns} (hF:RCt c F) (hN:∃ k,FNx c.l k F) (hK:FOk F) (w:World) (d i:Nat) (r:PR Tr) (hd:d≤30)
include c F hF hN hK w d i r hd
open zrqdn in
theorem rst_block (hf:fx c.l i=tLBrace)(hs:r=blockP c.l F d i)(ho:r≠.out)(h:Ps c w i 0 (-1)) :
  Calls Tryz.prog 111 #[pPtr c,.int .i64 (d:Int)] w (QPost c w (NV w.heap.size) ZN r):=by
 exact zrbb
open zrqdl in
theorem rst_empty (hf:fx c.l i=tSemi)(hs:r=.ok (.mk 16 noText 0 []) (i+1))(ho:r≠.out)(h:Ps c w i 0 (-1)) :
  Calls Tryz.prog 111 #[pPtr c,.int .i64 (d:Int)] w (QPost c w (NV w.heap.size) ZN r):=by
 exact zrbb
open zrqdm in
theorem rst_func (hf:fx c.l i=tFunction)(hs:r=(nameP c.l (i+1)).bind fun s i2=>rfuncTail c.l F 5 s d i2)(ho:r≠.out)(h:Ps c w i 0 (-1)) :
  Calls Tryz.prog 111 #[pPtr c,.int .i64 (d:Int)] w (QPost c w (NV w.heap.size) ZN r):=by
 exact zrz
open zrqdj in
theorem rst_throw (hf:fx c.l i=tThrow)(hs:r=(deepP c.l F.vl d (i+1)).bind fun v i1=>(mustP c.l tSemi i1).bind fun _ i2=>.ok (.mk 11 noText 0 [v]) i2)(ho:r≠.out)(h:Ps c w i 0 (-1)) :
  Calls Tryz.prog 111 #[pPtr c,.int .i64 (d:Int)] w (QPost c w (NV w.heap.size) ZN r):=by
 exact zrv
open zrqdk in
theorem rst_expr (n0:¬ fx c.l i=tLBrace)(n1:¬ fx c.l i=tSemi)(n2:¬ fx c.l i=tFunction)(n3:¬ fx c.l i=tIf)(n4:¬ fx c.l i=tWhile)(n5:¬ fx c.l i=tWith)(n6:¬ fx c.l i=tTry)(n7:¬ fx c.l i=tVar)(n8:¬ fx c.l i=tLet)(n9:¬ fx c.l i=tConst)(n10:¬ fx c.l i=tReturn)(n11:¬ fx c.l i=tThrow)(hs:r=(deepP c.l F.vl d i).bind fun v i1=>(mustP c.l tSemi i1).bind fun _ i2=>.ok (.mk 15 noText 0 [v]) i2)(ho:r≠.out)(h:Ps c w i 0 (-1)) :
  Calls Tryz.prog 111 #[pPtr c,.int .i64 (d:Int)] w (QPost c w (NV w.heap.size) ZN r):=by
 exact zrbb
end
structure Stk (c:PC)(w:World)(k:Int)(i:Nat)(W:World):Prop where
 ps:Ps c W i 0 (-1)
 nd:W.heap[w.heap.size]? = some (nodeObj k noText 0 (.slice none 0 0))
 ap:Ap c.P w.heap.size w W
section
variable {c:PC} {w:World}
include c w
theorem Stk.below {k:Int}{i:Nat}{W W':World}(h:Stk c w k i W)(hb:Below W.heap.size W W'):Stk c w k i W':=⟨h.ps.later hb,(hb.block _ (lt_of_heap h.nd)).trans h.nd,h.ap.next (Ap.of hb)⟩
theorem Stn.kind {i:Nat}{W:World}(h:Stn c w i W)(hlo:c.lo≤w.heap.size)(k:Int):Stk c w k i (W.setCell ⟨w.heap.size,0,none⟩ (.int .i64 k)):=
 ⟨h.ps.ap ((Below.refl w.heap.size W).setCell (p:=⟨w.heap.size,0,none⟩) (Nat.le_refl _) _) hlo,by rw[heap_set h.nd];rfl,h.ap.setCell (p:=⟨w.heap.size,0,none⟩) (Or.inl (Nat.le_refl _)) _⟩
theorem Stk.kind {k0:Int}{i:Nat}{W:World}(h:Stk c w k0 i W)(hlo:c.lo≤w.heap.size)(k:Int):Stk c w k i (W.setCell ⟨w.heap.size,0,none⟩ (.int .i64 k)):=
 ⟨h.ps.ap ((Below.refl w.heap.size W).setCell (p:=⟨w.heap.size,0,none⟩) (Nat.le_refl _) _) hlo,by rw[heap_set h.nd];rfl,h.ap.setCell (p:=⟨w.heap.size,0,none⟩) (Or.inl (Nat.le_refl _)) _⟩
theorem Stk.stepped {k:Int}{i:Nat}{W:World}(h:Stk c w k i W)(hP:c.P<w.heap.size)(hl:i+1<c.l.length):Stk c w k (i+1) (W.setCell ⟨c.P,1,none⟩ (.int .i64 ((i:Int)+1))):=by
 have hn:((i:Int)+1)=(((i+1:Nat)):Int):=by omega
 rw[hn]
 exact⟨h.ps.step hl,by rw[Below.heap_setCell _ _ _ _ (by first|exact Nat.ne_of_gt hP|exact Nat.ne_of_lt hP)];exact h.nd,h.ap.setCell (p:=⟨c.P,1,none⟩) (Or.inr rfl) _⟩
end
section
variable {c:PC} {F:Fns} (hF:RCt c F) (hN:∃ k,FNx c.l k F) (hK:FOk F) (w:World) (d i:Nat) (r:PR Tr) (hd:d≤30)
include c F hF hN hK w d i r hd
open zrqdo in
theorem rst_return (hf:fx c.l i=tReturn)(hs:r=if ¬ fx c.l (i+1)=tSemi then (deepP c.l F.vl d (i+1)).bind fun v i1=>(mustP c.l tSemi i1).bind fun _ i2=>.ok (.mk 10 noText 0 [v]) i2 else (mustP c.l tSemi (i+1)).bind fun _ i2=>.ok (.mk 10 noText 0 []) i2)(ho:r≠.out)(h:Ps c w i 0 (-1)) :
  Calls Tryz.prog 111 #[pPtr c,.int .i64 (d:Int)] w (QPost c w (NV w.heap.size) ZN r):=by
 exact zrv
open zrqdq in
theorem rst_while (hf:fx c.l i=tWhile)(hs:r=(inParP c.l F d (i+1)).bind fun v i1=>(deepP c.l F.st d i1).bind fun s i2=>.ok (.mk 8 noText 0 [v,s]) i2)(ho:r≠.out)(h:Ps c w i 0 (-1)) :
  Calls Tryz.prog 111 #[pPtr c,.int .i64 (d:Int)] w (QPost c w (NV w.heap.size) ZN r):=by
 exact zrv
open zrqdp in
theorem rst_with (hf:fx c.l i=tWith)(hs:r=(inParP c.l F d (i+1)).bind fun v i1=>(deepP c.l F.st d i1).bind fun s i2=>.ok (.mk 9 noText 0 [v,s]) i2)(ho:r≠.out)(h:Ps c w i 0 (-1)) :
  Calls Tryz.prog 111 #[pPtr c,.int .i64 (d:Int)] w (QPost c w (NV w.heap.size) ZN r):=by
 exact zrv
end
theorem rpart_kd {l:List Tk}{F:Fns}{d q i j:Nat}{t:Tr}(h:rpartP l F d q i=.ok t j):t.kd≠15:=by
 by_cases hq:q=1
 ·subst hq;have h':rfuncP l F d i=.ok t j:=h;unfold rfuncP at h';obtain⟨_,_,_,h'⟩:=bind_inv h';obtain⟨s,_,_,h'⟩:=bind_inv h';unfold rfuncTail at h';obtain⟨ps,_,_,h'⟩:=bind_inv h'
  obtain⟨b,_,_,h'⟩:=bind_inv h'
  cases h'
  show (5:Int)≠15
  decide
 ·have he:rpartP l F d q i=partP l F d q i:=by
   match q with
   | 0=>rfl
   | 1=>exact absurd rfl hq
   | 2=>rfl
   | 3=>rfl
   | 4=>rfl
   | 5=>rfl
   | 6=>rfl
   | n+7=>rfl
  rw[he] at h;exact part_kd h
theorem rfns_ok (l:List Tk):∀ k,FOk (rfns l k):=by
 intro k
 cases k with
 | zero=>intro d i t j h;cases h
 | succ k=>
  intro d i t j h h15;have h':rstatementP l (rfns l k) d i=.ok t j:=h;unfold rstatementP at h'
  split at h'
  ·exact absurd h15 (rpart_kd h')
  ·exact zbgy
structure RestC (c:PC)(F:Fns):Prop where
 choice:∀ w d i r,d≤30→fx c.l i=tIf→r=choiceP c.l F d i→r≠.out→Ps c w i 0 (-1)→Calls Tryz.prog 111 #[pPtr c,.int .i64 (d:Int)] w (QPost c w (NV w.heap.size) ZN r)
 attempt:∀ w d i r,d≤30→fx c.l i=tTry→r=attemptP c.l F d i→r≠.out→Ps c w i 0 (-1)→Calls Tryz.prog 111 #[pPtr c,.int .i64 (d:Int)] w (QPost c w (NV w.heap.size) ZN r)
 decl:∀ w d i r,d≤30→(fx c.l i=tVar∨fx c.l i=tLet∨fx c.l i=tConst)→r=declP c.l F d i→r≠.out→Ps c w i 0 (-1)→Calls Tryz.prog 111 #[pPtr c,.int .i64 (d:Int)] w (QPost c w (NV w.heap.size) ZN r)
theorem st_part {l:List Tk}{F:Fns}{d i:Nat}{r:PR Tr}{s:ByteArray}(q:Nat)(hf:fx l i=s)(hk:look2 stKeys s=some q)(hs:r=rstatementP l F d i):r=rpartP l F d q i:=by
 unfold rstatementP at hs
 rw[hf,hk] at hs
 exact hs
theorem tx_of {l:List Tk}{i:Nat}{s:ByteArray}(hs:s≠noText)(hf:fx l i=s):(tkA l i).tx=s:=((fx_is hs).1 hf).2
theorem rst_any {c:PC}{F:Fns}(hF:RCt c F)(hN:∃ k,FNx c.l k F)(hK:FOk F)(hR:RestC c F)(w:World)(d i:Nat)(r:PR Tr)(hd:d≤30)(hs:r=rstatementP c.l F d i)(ho:r≠.out)(h:Ps c w i 0 (-1)) :
  Calls Tryz.prog 111 #[pPtr c,.int .i64 (d:Int)] w (QPost c w (NV w.heap.size) ZN r):=by
 by_cases n0:fx c.l i=tLBrace
 ·exact rst_block hF hN hK w d i r hd n0 (st_part 2 n0 (by decide +kernel) hs) ho h
 by_cases n1:fx c.l i=tSemi
 ·have h1:r=(mustP c.l tSemi i).bind fun _ i1=>.ok (.mk 16 noText 0 []) i1:=st_part 3 n1 (by decide +kernel) hs;unfold mustP at h1;rw[if_pos n1] at h1;exact rst_empty hF hN hK w d i r hd n1 h1 ho h
 by_cases n2:fx c.l i=tFunction
 ·have h1:r=(mustP c.l tFunction i).bind fun _ i1=>(nameP c.l i1).bind fun s i2=>rfuncTail c.l F 5 s d i2:=st_part 1 n2 (by decide +kernel) hs;unfold mustP at h1;rw[if_pos n2] at h1
  exact rst_func hF hN hK w d i r hd n2 h1 ho h
 by_cases n3:fx c.l i=tIf
 ·exact hR.choice w d i r hd n3 (st_part 4 n3 (by decide +kernel) hs) ho h
 by_cases n4:fx c.l i=tWhile
 ·have h1:r=behindP c.l F d i:=st_part 5 n4 (by decide +kernel) hs;unfold behindP at h1;rw[tx_of (by decide) n4,show hdKind tWhile=8 from by decide +kernel] at h1;exact rst_while hF hN hK w d i r hd n4 h1 ho h
 by_cases n5:fx c.l i=tWith
 ·have h1:r=behindP c.l F d i:=st_part 5 n5 (by decide +kernel) hs;unfold behindP at h1;rw[tx_of (by decide) n5,show hdKind tWith=9 from by decide +kernel] at h1;exact rst_with hF hN hK w d i r hd n5 h1 ho h
 by_cases n6:fx c.l i=tTry
 ·exact hR.attempt w d i r hd n6 (st_part 7 n6 (by decide +kernel) hs) ho h
 by_cases n7:fx c.l i=tVar
 ·exact hR.decl w d i r hd (Or.inl n7) (st_part 0 n7 (by decide +kernel) hs) ho h
 by_cases n8:fx c.l i=tLet
 ·exact hR.decl w d i r hd (Or.inr (Or.inl n8)) (st_part 0 n8 (by decide +kernel) hs) ho h
 by_cases n9:fx c.l i=tConst
 ·exact hR.decl w d i r hd (Or.inr (Or.inr n9)) (st_part 0 n9 (by decide +kernel) hs) ho h
 by_cases n10:fx c.l i=tReturn
 ·have h1:r=givingP c.l F d i:=st_part 6 n10 (by decide +kernel) hs;unfold givingP at h1;rw[tx_of (by decide) n10,show hdKind tReturn=10 from by decide +kernel] at h1
  have h2:((10:Int)=11∨¬ fx c.l (i+1)=tSemi)↔¬ fx c.l (i+1)=tSemi:=⟨fun h=>h.resolve_left (by decide),Or.inr⟩;simp only[h2] at h1;exact rst_return hF hN hK w d i r hd n10 h1 ho h
 by_cases n11:fx c.l i=tThrow
 ·have h1:r=givingP c.l F d i:=st_part 6 n11 (by decide +kernel) hs;unfold givingP at h1;rw[tx_of (by decide) n11,show hdKind tThrow=11 from by decide +kernel,if_pos (Or.inl rfl)] at h1
  exact rst_throw hF hN hK w d i r hd n11 h1 ho h
 have hno:look2 stKeys (fx c.l i)=none:=by
  unfold look2 stKeys;simp[n0,n1,n2,n3,n4,n5,n6,n7,n8,n9,n10,n11]
 unfold rstatementP at hs
 rw[hno] at hs
 exact rst_expr hF hN hK w d i r hd n0 n1 n2 n3 n4 n5 n6 n7 n8 n9 n10 n11 hs ho h
section
variable (c:PC) (w:World) (i:Nat) (h:Ps c w i 0 (-1))
include c w i h
theorem rst_limit :
  Calls Tryz.prog 111 #[pPtr c,.int .i64 31] w (QPost c w (NV w.heap.size) ZN (badF (α:=Tr) c.l 4 i)):=by
 have HC:=hide (rfail_new c w i 4 (by decide) h)
 clear h
 go_enter Tryz.func111,Tryz.ntmps111
 go_wp2_with fail
 refine cm HC.out ?_
 rintro e w2 ⟨⟨v,rfl,q,rfl⟩,hp,he,ha⟩
 have HP2:=hide hp
 have HA2:=hide ha
 clear hp ha HC
 exact zbda
theorem rvalue_limit :
  Calls Tryz.prog 193 #[pPtr c,.int .i64 31] w (QPost c w (NV w.heap.size) ZN (badF (α:=Tr) c.l 4 i)):=by
 have HC:=hide (rok_new h)
 have HC2:=hide (rfail_new c w i 4 (by decide) h)
 clear h
 go_enter Tryz.func193,Tryz.ntmps193
 go_wp2_with fail
 refine cm HC.out ?_
 rintro e w1 ⟨rfl,rfl⟩
 clear HC
 go_wp2_with fail
 refine cm HC2.out ?_
 rintro e w2 ⟨⟨v,rfl,q,rfl⟩,hp,he,ha⟩
 have HP2:=hide hp
 have HA2:=hide ha
 clear hp ha HC2
 exact zbda
end
theorem rfns_does {c:PC}(hE:Ends c.l)(hR:∀ F,RCt c F→(∃ k,FNx c.l k F)→FOk F→RestC c F):∀ k,RCt c (rfns c.l k):=by
 intro k
 induction k with
 | zero=>
  refine⟨?_,?_,?_,?_⟩
  ·intro w d i r hd hs ho h;unfold deepP at hs
   by_cases h30:d=30
   ·rw[if_pos h30] at hs;subst h30;rw[hs];exact rst_limit c w i h
   ·rw[if_neg h30] at hs;exact absurd hs ho
  ·intro w d i r hd hs ho h;unfold deepP at hs
   by_cases h30:d=30
   ·rw[if_pos h30] at hs;subst h30;rw[hs];exact rvalue_limit c w i h
   ·rw[if_neg h30] at hs;exact absurd hs ho
  ·intro w d i r g hd hs ho _ _ _;exact absurd hs ho
  ·intro w d i r hd hs ho _;exact absurd hs ho
 | succ k ih=>
  have hN:∃ k',FNx c.l k' (rfns c.l k):=⟨k,rfns_nx hE k⟩;have hK:=rfns_ok c.l k;refine⟨?_,?_,?_,?_⟩
  ·intro w d i r hd hs ho h
   by_cases h30:d=30
   ·subst h30;have h1:r=badF c.l 4 i:=by unfold deepP at hs;rw[if_pos rfl] at hs;exact hs
    rw[h1];exact rst_limit c w i h
   ·have h1:r=rstatementP c.l (rfns c.l k) (d+1) i:=by unfold deepP at hs;rw[if_neg h30] at hs;exact hs
    have h2:=rst_any ih hN hK (hR _ ih hN hK) w (d+1) i r (by omega) h1 ho h;have h3:(((d+1:Nat):Nat):Int)=(d:Int)+1:=by omega
    rw[h3] at h2;exact h2
  ·intro w d i r hd hs ho h;exact rvalue_any ih w d i r hd hs ho h
  ·intro w d i r g hd hs ho h hk hg;exact rpr_any ih w d i r g hd hs ho h hk hg
  ·intro w d i r hd hs ho h;exact rsingle_any ih hN hK w d i r hd hs ho h
end Go.Proofs.YtoimgcjbcbhclaaGreatDoor
