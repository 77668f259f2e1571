/-
  The reference's Tokens, whole: its rounds joined, and the way out of its loop.
-/
import Derived.Test.YtoimgcjbcbhclaaGreatDoorWt37
import Derived.Test.YtoimgcjbcbhclaaGreatDoorWt23
import Derived.Test.YtoimgcjbcbhclaaGreatDoorWt35
set_option maxRecDepth 100000
set_option maxHeartbeats 16000000
namespace Go.Proofs.YtoimgcjbcbhclaaGreatDoor
open Go.RowKit
theorem rf_len_data (x:ByteArray):x.data.toList.length=x.size:=by simp
theorem rf_bytes_ext {x y:ByteArray}(h:x.data.toList=y.data.toList):x=y:=WideShapes.bytes_inj h
theorem rf_pfx_iff (x p:ByteArray):pfxB x p=true↔p.data.toList <+: x.data.toList:=by
 unfold pfxB
 rw[Bool.and_eq_true,decide_eq_true_eq,beq_iff_eq,ByteArray.toList_eq,ByteArray.toList_eq,ext_list,List.drop_zero,Nat.sub_zero,List.prefix_iff_eq_take,rf_len_data]
 constructor
 ·rintro⟨_,h⟩;exact h.symm
 ·intro h;refine⟨?_,h.symm⟩;have:=congrArg List.length h;rw[List.length_take,rf_len_data,rf_len_data] at this;omega
theorem rf_sign_cut (gs:List ByteArray)(s:ByteArray)(k:Nat)(g:ByteArray)(hk:k≤s.size)(hf:gs.find? (fun g=>pfxB (s.extract k s.size) g)=some g) :
  gs.find? (fun g'=>pfxB (s.extract k (k+g.size)) g')=some g∧k+g.size≤s.size∧s.extract k (k+g.size)=g:=by
 have hp:=List.find?_some hf
 have hp2:=(rf_pfx_iff _ _).1 hp
 have hfull:(s.extract k s.size).data.toList=s.data.toList.drop k:=by
  rw[ext_list,List.take_of_length_le (by rw[List.length_drop,rf_len_data];omega)]
 rw[hfull] at hp2
 have hlen:=hp2.length_le
 rw[List.length_drop,rf_len_data,rf_len_data] at hlen
 have hx:s.extract k (k+g.size)=g:=by
  apply rf_bytes_ext;rw[ext_list,Nat.add_sub_cancel_left,←rf_len_data g];exact(List.prefix_iff_eq_take.1 hp2).symm
 refine⟨?_,by by_cases h0:g.size=0 <;> omega,hx⟩
 rw[hx]
 rw[List.find?_eq_some_iff_getElem] at hf ⊢
 obtain⟨_,i,hi,hgi,hall⟩:=hf
 refine⟨(rf_pfx_iff _ _).2 (List.prefix_refl _),i,hi,hgi,fun j hj=>?_⟩
 have hn:=hall j hj
 cases hc:pfxB g gs[j]
 ·rfl
 ·have h1:=(rf_pfx_iff _ _).1 hc;have h2:pfxB (s.extract k s.size) gs[j]=true:=(rf_pfx_iff _ _).2 (by rw[hfull];exact h1.trans hp2)
  rw[h2] at hn;simp at hn
theorem rf_signs_pos:∀ g ∈ signsS,1≤g.size:=by decide +kernel
theorem round6 (ws:List ByteArray)(s:ByteArray)(w wr:World)(r:TR)(K:Act→World→Prop)(f:Nat→Value)(v:Value)(j:Nat)(acc:List Tk)(hs:s.size≤3000)(hlt:j<s.size)(hal:acc.length≤j)(hL:RefLists ws w)
  (he:toksR ws signsS s (pastN gapB s j) acc=r) (hinv:RInv w acc v wr):Code.wp Tryz.prog body6 (Q6 ws s w r K (s.size - j)) (fr s w.heap.size v (.int .i64 (j:Int)) f) wr:=by
 have hbt:=bt_eq s j hlt
 cases hgap:gapB (s[j].toNat:Int)
 ·
  cases hlet:letB (s[j].toNat:Int)
  ·
   cases hdig:digB (s[j].toNat:Int)
   ·by_cases hquo:s[j]=39
    ·have hq2:(((s[j].toNat:Nat):Int)==39)=true:=by rw[hquo];rfl
     have hrd0:rdTok ws signsS s j=rdStr s j:=by unfold rdTok;rw[hbt,hlet,hdig,if_neg (by simp),if_neg (by simp),if_pos hquo]
     cases hR:strR s (j+1) [] with
     | ok l e=>
      have hb:=strR_bounds s _ (j+1) [] l e rfl hR
      by_cases h500:500<l.length
      ·exact way_slong ws s w wr r K f v j acc hs hlt hal hL he hinv hgap hlet hdig hq2 l e hR h500 (by rw[hrd0];unfold rdStr;rw[hR];simp[h500])
      ·exact way_sok ws s w wr r K f v j acc hs hlt hal hL he hinv hgap hlet hdig hq2 l e hR hb.2.1 (by omega) (by omega) (by rw[hrd0];unfold rdStr;rw[hR];simp[h500])
     | bad p=>exact way_sbad ws s w wr r K f v j acc hs hlt hal hL he hinv hgap hlet hdig hq2 p hR (by rw[hrd0];unfold rdStr;rw[hR])
    ·have hq2:(((s[j].toNat:Nat):Int)==39)=false:=by rw[show (39:Int)=(((39:UInt8).toNat:Nat):Int) from rfl,byte_eq];simp[hquo]
     have hrd0:rdTok ws signsS s j=rdSign signsS s j:=by unfold rdTok;rw[hbt,hlet,hdig,if_neg (by simp),if_neg (by simp),if_neg hquo]
     cases hf:signsS.find? (fun g=>pfxB (s.extract j s.size) g) with
     | none=>
      refine way_znone ws s w wr r K f v j acc hs hlt hal hL he hinv hgap hlet hdig hq2 (fun k hk=>?_) (by rw[hrd0];unfold rdSign;rw[hf])
      have hm:signsS.getD k ByteArray.empty ∈ signsS:=by rw[List.getD_eq_getElem?_getD,List.getElem?_eq_getElem (by rw[signsS_len];exact hk)];exact List.getElem_mem _
      simpa using List.find?_eq_none.1 hf _ hm
     | some g=>
      have hc:=rf_sign_cut signsS s j g (by omega) hf;have hgm:=List.mem_of_find?_eq_some hf;have hg1:=rf_signs_pos g hgm;obtain⟨hyes,m,hm,hgi,hall⟩:=List.find?_eq_some_iff_getElem.1 hf
      have hm19:m<19:=by rw[signsS_len] at hm;exact hm
      have hgd:signsS.getD m ByteArray.empty=g:=by rw[List.getD_eq_getElem?_getD,List.getElem?_eq_getElem hm];exact hgi
      refine way_zsome ws s w wr r K f v j acc hs hlt hal hL he hinv hgap hlet hdig hq2 m hm19 g hgd hg1 (by rw[←hgd];exact signs_sz m hm19) (fun k hk=>?_) hyes _ rfl hc.2.1 (by rw[hrd0];unfold rdSign;rw[hf])
      have:=hall k hk;rw[List.getD_eq_getElem?_getD,List.getElem?_eq_getElem (by omega)];simpa using this
   ·have hge:j<pastN digB s j:=by rw[←pastN_go digB s j hlt hdig];have:=pastN_ge digB s (j+1);omega
    have hes:=pastN_le digB s j (by omega);have hrd0:rdTok ws signsS s j=rdNum s j:=by unfold rdTok;rw[hbt,hlet,hdig,if_neg (by simp),if_pos rfl]
    have hat:=at_eq s j hlt
    by_cases h10:10<pastN digB s j - j
    ·have hrd:rdTok ws signsS s j=.bad 3 j:=by rw[hrd0];unfold rdNum;rw[if_pos h10]
     rcases Nat.lt_or_eq_of_le hes with hx|hx
     ·exact way_dlong_mid ws s w wr r K f v j acc hs hlt hal hL he hinv hgap hlet hdig _ rfl hge hes hx h10 hrd
     ·exact way_dlong_end ws s w wr r K f v j acc hs hlt hal hL he hinv hgap hlet hdig _ rfl hge hes hx h10 hrd
    ·by_cases h1:1<pastN digB s j - j
     ·by_cases h48:((s[j].toNat:Nat):Int)=48
      ·have hrd:rdTok ws signsS s j=.bad 3 j:=by rw[hrd0];unfold rdNum;rw[if_neg h10,if_pos ⟨h1,by rw[hat];exact h48⟩]
       rcases Nat.lt_or_eq_of_le hes with hx|hx
       ·exact way_dzero_mid ws s w wr r K f v j acc hs hlt hal hL he hinv hgap hlet hdig _ rfl hge hes hx h10 h1 (beq_iff_eq.2 h48) hrd
       ·exact way_dzero_end ws s w wr r K f v j acc hs hlt hal hL he hinv hgap hlet hdig _ rfl hge hes hx h10 h1 (beq_iff_eq.2 h48) hrd
      ·have hc:¬ (1<pastN digB s j - j∧(((s.data.toList.getD j 0).toNat:Nat):Int)=48):=fun h=>h48 (by have:=h.2;rw[hat] at this;exact this)
       by_cases hb:1000000000<numL (s.extract j (pastN digB s j)).data.toList
       ·have hrd:rdTok ws signsS s j=.bad 2 j:=by rw[hrd0];unfold rdNum;rw[if_neg h10,if_neg hc,if_pos hb]
        rcases Nat.lt_or_eq_of_le hes with hx|hx
        ·exact way_dbig_mid ws s w wr r K f v j acc hs hlt hal hL he hinv hgap hlet hdig _ rfl hge hes hx _ rfl h10 h1 (beq_eq_false_iff_ne.2 h48) hb hrd
        ·exact way_dbig_end ws s w wr r K f v j acc hs hlt hal hL he hinv hgap hlet hdig _ rfl hge hes hx _ rfl h10 h1 (beq_eq_false_iff_ne.2 h48) hb hrd
       ·have hrd:rdTok ws signsS s j=.tok 3 ⟨#[]⟩ (numL (s.extract j (pastN digB s j)).data.toList) (pastN digB s j):=by rw[hrd0];unfold rdNum;rw[if_neg h10,if_neg hc,if_neg hb]
        rcases Nat.lt_or_eq_of_le hes with hx|hx
        ·exact way_dmany_mid ws s w wr r K f v j acc hs hlt hal hL he hinv hgap hlet hdig _ rfl hge hes hx _ rfl h10 h1 (beq_eq_false_iff_ne.2 h48) hb hrd
        ·exact way_dmany_end ws s w wr r K f v j acc hs hlt hal hL he hinv hgap hlet hdig _ rfl hge hes hx _ rfl h10 h1 (beq_eq_false_iff_ne.2 h48) hb hrd
     ·have hc:¬ (1<pastN digB s j - j∧(((s.data.toList.getD j 0).toNat:Nat):Int)=48):=fun h=>h1 h.1;have hsz:=extract_size s j (pastN digB s j) (by omega) hes
      have hds:∀ b ∈ (s.extract j (pastN digB s j)).data.toList,digB (b.toNat:Int)=true:=by
       have:=digit_take (s.extract j (pastN digB s j)) (fun i hi=>by
        rw[extract_at s j _ i hes hi];exact past_in digB s (s.size - j) j (by omega) (j+i) (by omega) (by omega) (by omega)) (pastN digB s j - j)
       rw[List.take_of_length_le (by rw[data_len];omega)] at this
       exact this
      have hb1:=(numL_bound _ hds).2;have hl:(s.extract j (pastN digB s j)).data.toList.length=1:=by rw[data_len];omega
      rw[hl] at hb1;have hb:¬ 1000000000<numL (s.extract j (pastN digB s j)).data.toList:=by omega
      have hrd:rdTok ws signsS s j=.tok 3 ⟨#[]⟩ (numL (s.extract j (pastN digB s j)).data.toList) (pastN digB s j):=by rw[hrd0];unfold rdNum;rw[if_neg h10,if_neg hc,if_neg hb]
      rcases Nat.lt_or_eq_of_le hes with hx|hx
      ·exact way_done_mid ws s w wr r K f v j acc hs hlt hal hL he hinv hgap hlet hdig _ rfl hge hes hx _ rfl h1 hb hrd
      ·exact way_done_end ws s w wr r K f v j acc hs hlt hal hL he hinv hgap hlet hdig _ rfl hge hes hx _ rfl h1 hb hrd
  ·have hlod:lodB (s[j].toNat:Int)=true:=by unfold lodB;rw[hlet];rfl
   have hge:j<pastN lodB s j:=by rw[←pastN_go lodB s j hlt hlod];have:=pastN_ge lodB s (j+1);omega
   have hes:=pastN_le lodB s j (by omega);have hrd0:rdTok ws signsS s j=rdName ws s j:=by unfold rdTok;rw[hbt,hlet,if_pos rfl]
   cases hw:isIn ws (s.extract j (pastN lodB s j))
   ·by_cases h20:20<pastN lodB s j - j
    ·have hrd:rdTok ws signsS s j=.bad 4 j:=by rw[hrd0];unfold rdName;rw[hw];simp[h20]
     rcases Nat.lt_or_eq_of_le hes with hx|hx
     ·exact way_long_mid ws s w wr r K f v j acc hs hlt hal hL he hinv hgap hlet _ rfl hge hes hx hw h20 hrd
     ·exact way_long_end ws s w wr r K f v j acc hs hlt hal hL he hinv hgap hlet _ rfl hge hes hx hw h20 hrd
    ·have hrd:rdTok ws signsS s j=.tok 1 (s.extract j (pastN lodB s j)) 0 (pastN lodB s j):=by rw[hrd0];unfold rdName;rw[hw];simp[h20]
     rcases Nat.lt_or_eq_of_le hes with hx|hx
     ·exact way_name_mid ws s w wr r K f v j acc hs hlt hal hL he hinv hgap hlet _ rfl hge hes hx hw h20 hrd
     ·exact way_name_end ws s w wr r K f v j acc hs hlt hal hL he hinv hgap hlet _ rfl hge hes hx hw h20 hrd
   ·have hrd:rdTok ws signsS s j=.tok 2 (s.extract j (pastN lodB s j)) 0 (pastN lodB s j):=by rw[hrd0];unfold rdName;rw[hw];simp
    rcases Nat.lt_or_eq_of_le hes with hx|hx
    ·exact way_word_mid ws s w wr r K f v j acc hs hlt hal hL he hinv hgap hlet _ rfl hge hes hx hw hrd
    ·exact way_word_end ws s w wr r K f v j acc hs hlt hal hL he hinv hgap hlet _ rfl hge hes hx hw hrd
 ·have hg:=hgap;simp only[gapB,Bool.or_eq_true,beq_iff_eq] at hg
  by_cases h32:((s[j].toNat:Nat):Int)=32
  ·exact way_gap1 ws s w wr r K f v j acc hs hlt hal hL he hinv hgap (beq_iff_eq.2 h32)
  ·exact way_gap2 ws s w wr r K f v j acc hs hlt hal hL he hinv hgap (beq_eq_false_iff_ne.2 h32) (beq_iff_eq.2 (by omega))
theorem ref_row {w w5:World}{acc:List Tk}{v:Value}{n:Nat}(h:RInv w acc v w5)(hn:n=acc.length)(v0 v1:Value) :
  ((w5.setCell ⟨w.heap.size,0,none⟩ v0).setCell ⟨w.heap.size,1,none⟩ v1).ownsRow w.heap.size 167 4 v n (tksCells acc):=by
 subst hn
 exact own_base (by omega) (ownsRow_setCell_below (ownsRow_setCell_below h.own (by simp) _) (by simp) _)
theorem refTokens_any (ws:List ByteArray)(s:ByteArray)(w:World)(hs:s.size≤3000)(hL:RefLists ws w) :
  Calls Tryz.prog 109 #[.string s] w (UPost (toksR ws signsS s (pastN gapB s 0) []) w):=by
 obtain⟨i0,hi,hz0,hz1,hz2⟩:=info_parts infoRT
 obtain⟨r,hr⟩:∃ r,toksR ws signsS s (pastN gapB s 0) []=r:=⟨_,rfl⟩
 have HR:=hide hr
 rw[hr]
 have HL:=hide hL
 clear hr hL
 go_enter Tryz.func109,Tryz.ntmps109
 go_wp2_with fail
 rename_i K hK
 refine wp_loop (WI ws s w r) (mu6 s) ?_ ?_
 ·exact WI_mk 0 [] (.slice none 0 0) (Nat.zero_le _) (Nat.zero_le _) HR.out ⟨World.ownsRow_nil _ _ _ _,Below.refl _ _⟩ (by kernel_rfl)
 ·intro a wr hI;obtain⟨j,acc,v,f,hj,hal,he,hinv,rfl⟩:=hI;have hmu:mu6 s (fr s w.heap.size v (.int .i64 (j:Int)) f) wr=s.size - j:=rfl;rw[hmu]
  change Code.wp Tryz.prog body6 (Q6 ws s w r K (s.size - j)) (fr s w.heap.size v (.int .i64 (j:Int)) f) wr
  by_cases hlt:j<s.size
  ·exact round6 ws s w wr r K f v j acc hs hlt hal HL.out he hinv
  ·have hps:pastN gapB s j=j:=pastN_end gapB s j (by omega);have hq:r=.ok (acc++[Tk.mk 6 ⟨#[]⟩ 0 s.size]):=by rw[←he,hps,toksR_end ws signsS s j acc hlt]
   have HI:=hide hinv;obtain⟨rc0,rc1,rf0,rf1⟩:=hinv.cells;have HLR:=hide (hinv.lists HL.out);clear he hinv hps HR;subst hq
   conv=>arg 2;whnf
   unfold fr Q6;go_wp2_with fail;refine wp_region_any (by kernel_rfl) ?_;change wpAny _ _ _ _ _ _ _ (World.drew _);have HI0:=hide (HI.out.later ((Below.refl _ _).drew))
   obtain⟨W0,hW0⟩:∃ W0,W0=wr.drew:=⟨_,rfl⟩;rw[←hW0] at HI0 ⊢;have hL0:=HI0.out.lists HL.out;have m0:=hL0.f0;have m1:=hL0.f1;have hlt0:1<W0.heap.size:=lt_of_cell' m0
   have n0:(W0.alloc (.cells #[.int .i64 6,.string ⟨#[]⟩,.int .i64 0,.int .i64 (s.size:Int)] 167)).cell? ⟨1,0,none⟩=some (.int .i64 0):=by rw[World.cell?_alloc_past _ _ _ hlt0];exact m0
   have n1:(W0.alloc (.cells #[.int .i64 6,.string ⟨#[]⟩,.int .i64 0,.int .i64 (s.size:Int)] 167)).cell? ⟨1,1,none⟩=some (.int .i64 (-1)):=by rw[World.cell?_alloc_past _ _ _ hlt0];exact m1
   clear hW0 hL0 HI rc0 rc1 rf0 rf1;refine wt 0 v ?_;refine wt 1 (.string s) ?_;refine wt 2 (.int .i64 (s.size:Int)) ?_;refine wt 3 (.agg #[.int .i64 6,.string ⟨#[]⟩,.int .i64 0,.int .i64 (s.size:Int)]) ?_
   refine wpAny_ready (rs:=[4,6]) (by kernel_rfl) (by simp) ?_;refine AllReady.cons rfl (fun K2 hK2=>?_) (AllReady.cons rfl (fun K2 hK2=>?_) AllReady.nil)
   ·go_simp;refine hK2 _ _ ?_;clear hK2 K2;refine wpAny_ready (rs:=[5,6]) (by kernel_rfl) (by simp) ?_;refine AllReady.cons rfl (fun K2 hK2=>?_) (AllReady.cons rfl (fun K2 hK2=>?_) AllReady.nil)
    ·refine step_append_lies _ (by rfl) _ _ 161 (by rfl) (w.heap.size+1) 167 i0 noTok 4 40 Tryz.underlying161 hi hz0 hz1 hz2 rfl (by decide) v acc.length _ (by rfl) (HI0.out.own.alloc (.cells #[.int .i64 6,.string ⟨#[]⟩,.int .i64 0,.int .i64 (s.size:Int)] 167)) ⟨W0.heap.size,0,none⟩ 1 1 [.int .i64 6,.string ⟨#[]⟩,.int .i64 0,.int .i64 (s.size:Int)] (by rfl) (by rfl) (new4_cells _ _ _ _ _) (new4_one _ _ _ _) (by omega) (by unfold maxLen;omega) (by omega) (by have:=HI0.out.size;simp;omega) _ rfl ?_
     intro g cap w5 hown' hgrow _ _;refine hK2 _ _ ?_;clear hK2 K2;have hI5:=HI0.out.app (t:=(Tk.mk 6 ⟨#[]⟩ 0 s.size)) _ hown' hgrow;have HI5:=hide hI5;have hL5:=hI5.lists HL.out
     obtain⟨p0,p1,q0,q1⟩:=hI5.cells;have l0:=hL5.f0;have l1:=hL5.f1;clear hown' hgrow hI5 hL5;refine wt 7 (.slice (some ⟨g,0,none⟩) (acc.length+1) cap) ?_
     refine wpAny_ready (rs:=[6]) (by kernel_rfl) (by simp) ?_;refine AllReady.cons rfl (fun K2 hK2=>?_) AllReady.nil;go_simp;refine hK2 _ _ ?_;clear hK2 K2;exact zcbe
    ·exact zbbg
   ·go_simp;refine hK2 _ _ ?_;clear hK2 K2;refine wpAny_ready (rs:=[4]) (by kernel_rfl) (by simp) ?_;refine AllReady.cons rfl (fun K2 hK2=>?_) AllReady.nil;exact zbbg
theorem isIn_mem {ws:List ByteArray}{x:ByteArray}(h:isIn ws x=true):x ∈ ws:=by
 unfold isIn at h
 simp only[List.any_eq_true,beq_iff_eq] at h
 obtain⟨y,hy,he⟩:=h
 have h1:y=x:=Classical.byContradiction fun hne=>by
  have h2:=tl_ne hne;rw[he] at h2;simp at h2
 exact h1 ▸ hy
section
variable {ws gs:List ByteArray} {s:ByteArray} {k:Nat}
include ws gs s k
theorem rdTok_tx {kd n:Int}{tx:ByteArray}{e:Nat}(h:rdTok ws gs s k=.tok kd tx n e):(kd=2→tx ∈ ws)∧(kd=5→tx ∈ gs):=by
 unfold rdTok at h
 split at h
 ·unfold rdName at h
  split at h
  ·rename_i hi
   cases h;exact⟨fun _=>isIn_mem hi,fun h=>absurd h (by decide)⟩
  ·exact zbfi
 ·split at h
  ·unfold rdNum at h
   split at h
   ·
    cases h
   ·split at h
    ·
     cases h
    ·exact zbfi
  ·split at h
   ·unfold rdStr at h
    split at h
    ·exact zbfi
    ·
     cases h
   ·unfold rdSign at h
    split at h
    ·rename_i g hg
     cases h;exact⟨fun h=>absurd h (by decide),fun _=>List.mem_of_find?_eq_some hg⟩
    ·
     cases h
theorem rdTok_er {er:Int}{p:Nat}(h:rdTok ws gs s k=.bad er p):er≠0:=by
 unfold rdTok at h
 split at h
 ·unfold rdName at h
  split at h
  ·
   cases h
  ·split at h
   ·
    cases h;decide
   ·
    cases h
 ·split at h
  ·unfold rdNum at h
   split at h
   ·
    cases h;decide
   ·split at h
    ·
     cases h;decide
    ·split at h
     ·
      cases h;decide
     ·
      cases h
  ·split at h
   ·unfold rdStr at h
    split at h
    ·split at h
     ·
      cases h;decide
     ·
      cases h
    ·
     cases h;decide
   ·unfold rdSign at h
    split at h
    ·
     cases h
    ·
     cases h;decide
end
section
variable (ws gs:List ByteArray) (s:ByteArray) (hgs:∀ g ∈ gs,1≤g.size)
include ws gs s hgs
theorem toks_tx:∀ m i acc l,s.size - i=m→i≤s.size→(∀ t ∈ acc,(t.kd=2→t.tx ∈ ws)∧(t.kd=5→t.tx ∈ gs))→toksR ws gs s i acc=.ok l →
  ∀ t ∈ l,(t.kd=2→t.tx ∈ ws)∧(t.kd=5→t.tx ∈ gs):=by
 intro m
 induction m using Nat.strongRecOn with
 | ind m ih=>
  intro i acc l hm hi ha h
  by_cases hlt:i<s.size
  ·
   cases hr:rdTok ws gs s i with
   | bad er p=>rw[toksR_bad ws gs s i acc er p hlt hr] at h;cases h
   | tok kd tx n e=>
    have hb:=rdTok_bounds ws gs s i kd n tx e hlt hgs hr;rw[toksR_go ws gs s i acc kd n tx e hlt hr hb.1] at h;have hge:=pastN_ge gapB s e;have hle:=pastN_le gapB s e hb.2
    refine ih (s.size - pastN gapB s e) (by omega) (pastN gapB s e) _ l rfl hle ?_ h;intro t ht
    rcases List.mem_append.1 ht with h1|h1
    ·exact ha t h1
    ·rw[List.mem_singleton.1 h1];exact rdTok_tx hr
  ·rw[toksR_end ws gs s i acc hlt] at h;cases h;intro t ht
   rcases List.mem_append.1 ht with h1|h1
   ·exact ha t h1
   ·rw[List.mem_singleton.1 h1];exact⟨fun h=>absurd (show (6:Int)=2 from h) (by decide),fun h=>absurd (show (6:Int)=5 from h) (by decide)⟩
theorem toks_er:∀ m i acc er p,s.size - i=m→i≤s.size→toksR ws gs s i acc=.bad er p→er≠0:=by
 intro m
 induction m using Nat.strongRecOn with
 | ind m ih=>
  intro i acc er p hm hi h
  by_cases hlt:i<s.size
  ·
   cases hr:rdTok ws gs s i with
   | bad er2 p2=>
    rw[toksR_bad ws gs s i acc er2 p2 hlt hr] at h;cases h;exact rdTok_er hr
   | tok kd tx n e=>
    have hb:=rdTok_bounds ws gs s i kd n tx e hlt hgs hr;rw[toksR_go ws gs s i acc kd n tx e hlt hr hb.1] at h;have hge:=pastN_ge gapB s e;have hle:=pastN_le gapB s e hb.2
    exact ih (s.size - pastN gapB s e) (by omega) (pastN gapB s e) _ er p rfl hle h
  ·rw[toksR_end ws gs s i acc hlt] at h;cases h
end
theorem toks_noSg {ws gs:List ByteArray}{s:ByteArray}{l:List Tk}(hgs:∀ g ∈ gs,1≤g.size)(hws:∀ x ∈ ws,sgP 2 x=none)(hpm:∀ g ∈ gs,g≠tPM)(h:toksR ws gs s (pastN gapB s 0) []=.ok l):NoSg l∧NoPM l:=by
 have ha:=toks_tx ws gs s hgs _ _ [] l rfl (pastN_le gapB s 0 (Nat.zero_le _)) (fun _ h=>absurd h (by simp)) h
 have hm:∀ i,(tkA l i).kd=6∨tkA l i ∈ l:=by
  intro i;unfold tkA;rw[List.getD_eq_getElem?_getD]
  by_cases hi:i<l.length
  ·rw[List.getElem?_eq_getElem hi];exact Or.inr (List.getElem_mem hi)
  ·rw[List.getElem?_eq_none (by omega)];exact Or.inl rfl
 refine⟨fun i h2=>?_,fun i h5=>?_⟩
 ·rcases hm i with h6|hmem
  ·rw[h6] at h2;exact absurd h2 (by decide)
  ·exact hws _ ((ha _ hmem).1 h2)
 ·rcases hm i with h6|hmem
  ·rw[h6] at h5;exact absurd h5 (by decide)
  ·exact hpm _ ((ha _ hmem).2 h5)
def rparseS (ws:List ByteArray)(s:ByteArray):PaR:=
 match toksR ws signsS s (pastN gapB s 0) [] with
 | .bad er p=>.at er p
 | .ok l=>match progP l (rfns l KK) with
  | .bad er p=>.at er p
  | .ok t _=>if 1500<t.count then .bare else .ok t
  | .out=>.bare
theorem rprog_total {l:List Tk}(hE:Ends l)(h0:0<l.length)(hl:l.length≤3001):progP l (rfns l KK)≠.out∧∀ t j,progP l (rfns l KK)=.ok t j→j<l.length:=by
 have hF:=rfns_nx hE KK
 have hfu:(rfns l KK).fuel=24099:=rfl
 have hnx:=progLoop_nx hF (by unfold KK;omega) (rfns l KK).fuel [] 0 h0 (by rw[hfu];omega)
 have hlt:=progLoop_lt hF (rfns l KK).fuel [] 0
 unfold progP
 cases hr:progLoop l (rfns l KK) (rfns l KK).fuel [] 0 with
 | out=>exact absurd hr hnx
 | bad er p=>exact⟨by nofun,fun t j h=>by cases h⟩
 | ok ts j=>exact⟨by nofun,fun t j2 h=>by cases h;exact hlt ts j h0 hr⟩
theorem rparse_same {ws gs:List ByteArray}{s:ByteArray}{t:Tr}(hg:gs=signsS)(hs:s.size≤3000)(hgs:∀ g ∈ gs,1≤g.size)(hws:∀ x ∈ ws,sgP 2 x=none)(hpm:∀ g ∈ gs,g≠tPM)(h:rparseS ws s=.ok t):parseS ws gs s=.ok t:=by
 subst hg
 unfold rparseS at h
 unfold parseS
 rw[if_neg (by omega)]
 cases hl:toksR ws signsS s (pastN gapB s 0) [] with
 | bad er p=>rw[hl] at h;cases h
 | ok l=>
  rw[hl] at h;simp only at h ⊢;have hE:=toks_ends hgs hl;have hN:=toks_noSg hgs hws hpm hl;have hT:=prog_total hE.1 hE.2.1 (by omega)
  cases hp:progP l (rfns l KK) with
  | out=>rw[hp] at h;cases h
  | bad er p=>rw[hp] at h;cases h
  | ok t2 j=>
   rw[hp] at h;simp only at h
   rcases rprog_imp hN.1 hN.2 KK KK t2 j hp with h2|h2
   ·rw[h2];exact h
   ·exact absurd h2 hT.1
theorem row_cells0 {B:Nat}{w:World}{g n cap:Nat}{ps:List Nat}(h:w.ownsRow B 22 1 (.slice (some ⟨g,0,none⟩) n cap) n (ps.map nPtr)):∀ j u,(ps.map nPtr)[j]? = some u→w.cell? ((⟨g,0,none⟩:Addr).add j)=some u:=by
 exact zccp
theorem all_any:∀ (m:Nat) (t:Tr),t.count≤m→∀ (p:Nat) (w:World),NAt (fun _=>True) w t p→t.count≤100000 →
  Calls Tryz.prog 25 #[nPtr p] w fun e w'=>(∃ (v:Value) (qs:List Nat),e=.returned v∧w'.ownsRow w.heap.size 22 1 v t.count (qs.map nPtr))∧Below w.heap.size w w':=by
 intro m
 induction m with
 | zero=>
  exact zbeo
 | succ m ih=>
  intro t ht p w hnt hbd;obtain⟨i0,hi0,hz0,hz1,hz2⟩:=info_parts info22;obtain⟨u,ps,hblk,hrow,hri,hks⟩:=hnt.opens2;have hlen:=NAts.length _ _ hks
  have htc:t.count=1+Tr.counts t.kids:=by cases t with|mk kd tx nn ks=>exact count_mk _ _ _ _
  obtain⟨_,_,_,f3,_⟩:=node_cells hblk;obtain⟨ua,uc,hu⟩:=row_shut hrow;subst hu;rw[hlen] at f3;have hpl:=lt_of_heap hblk;have HKS:=hide hks;have HROW:=hide hrow;have HIH:=hide ih
  have HTC:=hide htc;have HHT:=hide ht;have HBD:=hide hbd;have HLEN:=hide hlen;clear hks hrow hri ih htc ht hbd hblk hnt hlen;go_enter Tryz.func25,Tryz.ntmps25;go_wp2_with fail
  go_loopw [3,15] (fun o i wr=>∃ (k:Nat) (qs:List Nat),k≤t.kids.length∧i=.int .i64 k∧wr.ownsRow w.heap.size 22 1 o (1+Tr.counts (t.kids.take k)) (qs.map nPtr)∧Below w.heap.size w wr) (fun _ i _=>t.kids.length - (intOf i).toNat)
  case atStart=>exact⟨0,[p],Nat.zero_le _,rfl,by simpa[counts_nil] using own_one w p (Nat.le_refl _),(Below.refl _ _).alloc (Nat.le_refl _) _⟩
  case round=>
   obtain⟨k,qs,hk,rfl,hown,hbel⟩:=hrel;have HOWN:=hide hown;have HBEL:=hide hbel;obtain⟨oa,oc,rfl⟩:=row_shut hown;clear hown hbel
   by_cases hlt:k<t.kids.length
   ·obtain⟨g,cap,hv,hcell⟩:=row_open HROW.out (by have:=unhide HLEN;omega)
    simp only[Value.slice.injEq] at hv;obtain⟨rfl,_,rfl⟩:=hv;obtain⟨hkp,hnk⟩:=NAts.get _ _ HKS.out k hlt;have hgl:g<w.heap.size:=(own_lt HROW.out g rfl).1
    have hck:wr.cell? ⟨g,k,none⟩=some (nPtr ps[k]):=by
     rw[HBEL.out.cell (p:=⟨g,k,none⟩) hgl];exact hcell k hkp
    have hnk2:NAt (fun _=>True) wr t.kids[k] ps[k]:=NAt.later (fun x _ hl=>HBEL.out.block x hl) _ _ hnk;have hle:=counts_le t.kids k hlt;have htk:=counts_take t.kids k hlt;have h1:=unhide HTC
    have h2:=unhide HHT;have h3:=unhide HBD;have htot:Tr.counts (t.kids.take k)+(t.kids[k]).count≤Tr.counts t.kids:=by
     exact zbdn
    have HC:=hide (HIH.out t.kids[k] (by omega) ps[k] wr hnk2 (by omega));have HTK:=hide htk;obtain⟨q,hq⟩:∃ q,q=ps[k]:=⟨_,rfl⟩;rw[←hq] at hck HC;have hki:(k:Int)<(t.kids.length:Int):=by omega
    have hkb:t.kids.length≤100000:=by have:=counts_len t.kids;omega
    have hcp:=count_pos t.kids[k]
    generalize hcc:(t.kids[k]).count=cc at HC HTK htot hcp
    generalize hoo:Tr.counts (t.kids.take k)=oo at HOWN HTK htot
    have hmx:oo+cc≤100000:=by omega
    clear hcell hnk hnk2 hle htk h1 h2 h3 htot hq hcc hoo;go_wp2_with fail;refine cm HC.out ?_;rintro e w2 ⟨⟨v,qs2,rfl,hown2⟩,hb2⟩
    have HOWN2:Hid (w2.ownsRow w.heap.size 22 1 (.slice oa (1+oo) oc) (1+oo) (qs.map nPtr)):=owns_stay (I:=fun _=>True) (fun b _ hl=>hb2.block b hl) (fun _ _=>trivial) HOWN.out
    obtain⟨g2,cap2,rfl,hg2,hg2l⟩:=hown2.form (by omega);have HNEW:=hide hown2;have hz2':w.heap.size≤w2.heap.size:=Nat.le_trans HBEL.out.size hb2.size
    have HB2:=hide (HBEL.out.trans (hb2.mono HBEL.out.size));have HOB:=hide (own_lt HOWN2.out);clear hown2 hb2 HC hck HOWN
    go_wp2_with (at_builtin;refine wpList_append_lies _ rfl _ _ 46 rfl w.heap.size 22 i0 (.pointer none) 1 8 Tryz.underlying46 hi0 hz0 hz1 hz2 rfl (by decide) _ _ _ rfl HOWN2.out ⟨g2,0,none⟩ cc cap2 (qs2.map nPtr) rfl HNEW.out.1 (row_cells0 HNEW.out) (row_ones qs2) (by omega) (by unfold maxLen;omega) (by omega) hz2' w2.heap.size rfl ?_)
    intro g' cap' w3 hown' hgrow hg' _;have HB3:=hide (HB2.out.grown hgrow hz2' (fun b hb=>(unhide HOB b hb).2));have HO3:=hide hown';clear hown' hgrow hg' HNEW HOWN2;go_wp2_with fail
    go_roundw
    case measure=>simp[intOf];omega
    case rel=>exact⟨k+1,qs++qs2,by omega,by push_cast;rfl,by rw[HTK.out,List.map_append,←Nat.add_assoc];exact HO3.out,HB3.out⟩
   ·have hkk:k=t.kids.length:=by omega
    subst hkk;have hki:¬ ((t.kids.length:Int)<(t.kids.length:Int)):=by omega
    have HQ:Hid (wr.ownsRow w.heap.size 22 1 (.slice oa (1+Tr.counts (t.kids.take t.kids.length)) oc) t.count (qs.map nPtr)):=by
     have h1:=unhide HTC;have h2:=unhide HOWN;rw[List.take_length] at h2 ⊢;rw[h1];exact h2
    clear HOWN;go_wp2_with fail;go_ret;exact⟨⟨_,rfl,qs,by have h:=unhide HQ;rw[List.take_length] at h;exact h⟩,HBEL.out⟩
end Go.Proofs.YtoimgcjbcbhclaaGreatDoor
