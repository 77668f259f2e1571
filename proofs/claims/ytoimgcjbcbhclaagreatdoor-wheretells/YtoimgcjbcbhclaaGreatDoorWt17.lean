/-
  The walk of readString: what is said is gathered in a row of the call's own; each way out is a token or an error.
-/
import Derived.Test.YtoimgcjbcbhclaaGreatDoorWt16
set_option maxRecDepth 100000
set_option maxHeartbeats 16000000
namespace Go.Proofs.YtoimgcjbcbhclaaGreatDoor
open Go.RowKit
theorem info5:(Tryz.prog.info? 5).map (fun i=>(i.zero,i.size,i.bytes))=some (some (.int .u8 0),1,1):=by kernel_rfl
theorem cells_snoc (l:List UInt8)(b:UInt8):cellsOf (l++[b])=cellsOf l++[.int .u8 (b.toNat:Int)]:=by simp[cellsOf]
theorem rel_app {w wr w1:World}{v v':Value}{said:List UInt8}{b:UInt8}(o:Obj)(hB:Below (w.heap.size+1) (w.alloc O35) wr)(hsz:w.heap.size+1≤wr.heap.size)
  (hown:wr.ownsRow (w.heap.size+1) 5 1 v said.length (cellsOf said))
  (hown':w1.ownsRow (w.heap.size+1) 5 1 v' (said.length+1) (cellsOf said++[.int .u8 (b.toNat:Int)])) (hg:(wr.alloc o).grownBy w1 v.ownBlock) :
  w1.ownsRow (w.heap.size+1) 5 1 v' (said++[b]).length (cellsOf (said++[b]))∧Below (w.heap.size+1) (w.alloc O35) w1∧w.heap.size+1≤w1.heap.size:=by
 have hb2:Below (w.heap.size+1) (w.alloc O35) (wr.alloc o):=hB.alloc hsz o
 have hB1:Below (w.heap.size+1) (w.alloc O35) w1:=hb2.grown hg (by simp;omega) (fun k hk=>by
  obtain⟨_,⟨rfl,_⟩|⟨g,cap,cur,rfl,hge,_⟩⟩:=hown
  ·simp[Value.ownBlock] at hk
  ·simp[Value.ownBlock] at hk;omega)
 refine⟨by rw[cells_snoc,List.length_append];exact hown',hB1,?_⟩
 have:=hB1.size;simp at this;omega
theorem readStr_any (s:ByteArray)(k:Nat)(w:World)(hs:s.size≤3000)(hk:k<s.size) :
  Calls Tryz.prog 160 #[.string s,.int .i64 (k:Int)] w (RPost k (rdStr s k) w):=by
 obtain⟨i0,hi,hz0,hz1,hz2⟩:=info_parts info5
 obtain⟨r,hr⟩:∃ r,strR s (k+1) []=r:=⟨_,rfl⟩
 have HR:=hide hr
 obtain⟨q,hq⟩:∃ q,rdStr s k=q:=⟨_,rfl⟩
 have HQ:=hide hq
 rw[hq]
 clear hr hq
 go_enter Tryz.func160,Tryz.ntmps160
 go_wp2
 go_loopw [7,8,9,10,11] (fun v i _ _ _ wr=>∃ (j:Nat) (said:List UInt8),j≤s.size∧said.length≤j∧i=.int .i64 j∧strR s j said=r∧wr.ownsRow (w.heap.size+1) 5 1 v said.length (cellsOf said)∧Below (w.heap.size+1) (w.alloc O35) wr∧w.heap.size+1≤wr.heap.size) (fun _ i _ _ _ _=>s.size - (intOf i).toNat)
 case atStart=>exact⟨k+1,[],by omega,by simp,by go_num,HR.out,World.ownsRow_nil _ _ _ _,Below.refl _ _,by simp⟩
 case round=>
  obtain⟨j,said,hj,hsl,rfl,he,hown,hB,hsz⟩:=hrel;have HE:=hide he;have HOWN:=hide hown;have HB:=hide hB;clear he
  by_cases hlt:j<s.size
  ·have hbt:=bt_eq s j hlt;obtain⟨a,cap,rfl⟩:=row_shape hown;clear hown hB;have b1:=byte_eq s[j] 39;have b2:=byte_eq s[j] 10;have b3:=byte_eq s[j] 92
   by_cases c1:s[j]=39
   ·
    have t1:(((s[j].toNat:Nat):Int)==39)=true:=by rw[c1];rfl
    have hst:r=.ok said (j+1):=by rw[←HE.out,strR_quote s j said hlt (by rw[hbt];exact c1)]
    clear b1 b2 b3 c1 hbt
    by_cases h500:500<said.length
    ·have hq2:q=.bad 4 k:=by rw[←HQ.out];unfold rdStr;rw[HR.out,hst];simp[h500]
     clear hst HR HE;subst hq2;exact zbaw
    ·have hq2:q=.tok 4 (ofBytes said) 0 (j+1):=by rw[←HQ.out];unfold rdStr;rw[HR.out,hst];simp[h500]
     clear hst HR HE;subst hq2;have hcv:=row_text said HOWN.out;have hbelB:Below (w.alloc O35).heap.size (w.alloc O35) wr:=by simpa using unhide HB
     obtain⟨hc,hf⟩:=bcell hbelB;have HBEL2:=hide hbelB;clear hbelB;go_wp2_with fail
     exact bodyPost_ret (v:=.tuple #[.agg #[.int .i64 4,.string (ofBytes said),.int .i64 0,.int .i64 (k:Int)],.int .i64 ((j:Int)+1),.nilIface]) (by simp[results,Tryz.results160,go_sem,hc]) rfl ⟨by simp,good_end HBEL2.out _ _ _ _⟩
   ·have t1:(((s[j].toNat:Nat):Int)==39)=false:=by rw[show (39:Int)=(((39:UInt8).toNat:Nat):Int) from rfl,b1];simp[c1]
    by_cases c2:s[j]=10
    ·
     have t2:(((s[j].toNat:Nat):Int)==10)=true:=by rw[c2];rfl
     have hst:r=.bad j:=by rw[←HE.out,strR_lf s j said hlt (by rw[hbt];exact c2)]
     have hq2:q=.bad 3 j:=by rw[←HQ.out];unfold rdStr;rw[HR.out,hst]
     clear b1 b2 b3 c1 c2 hbt hst HR HE;subst hq2;exact zbaw
    ·have t2:(((s[j].toNat:Nat):Int)==10)=false:=by rw[show (10:Int)=(((10:UInt8).toNat:Nat):Int) from rfl,b2];simp[c2]
     by_cases c3:s[j]=92
     ·
      have t3:(((s[j].toNat:Nat):Int)==92)=true:=by rw[c3];rfl
      by_cases hlt2:j+1<s.size
      ·
       cases hm:esc (bt s (j+1)) with
       | none=>
        have hst:r=.bad (j+1):=by rw[←HE.out,strR_noesc s j said hlt (by rw[hbt];exact c3) (fun _=>hm)]
        have hq2:q=.bad 3 (j+1):=by rw[←HQ.out];unfold rdStr;rw[HR.out,hst]
        have HM:=hide hm;clear b1 b2 b3 c1 c2 c3 hbt hst HR HE hm;subst hq2;go_wp2_with fail;have hesc:=escaped_in s (j+1) wr hlt2;rw[HM.out] at hesc;refine cm hesc ?_;clear hesc;rintro e3 w3 ⟨rfl,rfl⟩
        simp only[escV];exact zbaw
       | some m=>
        have hst:strR s (j+2) (said++[m])=r:=by rw[←HE.out,strR_esc s j said m hlt (by rw[hbt];exact c3) hlt2 hm]
        have HST:=hide hst;have HM:=hide hm;clear b1 b2 b3 c1 c2 c3 hbt hst HE hm;go_wp2_with fail;have hesc:=escaped_in s (j+1) wr hlt2;rw[HM.out] at hesc;refine cm hesc ?_;clear hesc
        rintro e3 w3 ⟨rfl,rfl⟩;simp only[escV]
        go_wp2_with (at_builtin;refine wpList_append_own _ rfl _ _ 71 rfl (w.heap.size+1) 5 i0 (.int .u8 0) 1 1 Tryz.underlying71 hi hz0 hz1 hz2 rfl (by decide) _ _ _ rfl (HOWN.out.alloc _) ⟨w3.heap.size,0,none⟩ 1 1 [.int .u8 (m.toNat:Int)] rfl rfl ?c1 ?c2 ?c3 ?c4 ?c5 ?_)
        case c1=>
         intro j u hj
         match j,hj with
         | 0,hj=>simp at hj;subst hj;simp[Addr.add]
        case c2=>intro u hu;simp at hu;subst hu;rfl
        case c3=>unfold maxLen;omega
        case c4=>omega
        case c5=>simp;omega
        intro v' w1 hown' hgrow _;have R:=rel_app (b:=m) _ HB.out hsz HOWN.out hown' hgrow;have HRR:=hide R;clear hown' hgrow R
        go_wp2
        go_roundw
        case rel=>exact⟨j+2,said++[m],by omega,by simp;omega,by go_num,HST.out,HRR.out.1,HRR.out.2.1,HRR.out.2.2⟩
        case measure=>simp[intOf];omega
      ·have hst:r=.bad (j+1):=by rw[←HE.out,strR_noesc s j said hlt (by rw[hbt];exact c3) (fun h=>absurd h hlt2)]
       have hq2:q=.bad 3 (j+1):=by rw[←HQ.out];unfold rdStr;rw[HR.out,hst]
       clear b1 b2 b3 c1 c2 c3 hbt hst HR HE;subst hq2;go_wp2_with fail;have hesc:=escaped_out s (j+1) wr (by omega);refine cm hesc ?_;clear hesc;rintro e3 w3 ⟨rfl,rfl⟩;exact zbaw
     ·
      have t3:(((s[j].toNat:Nat):Int)==92)=false:=by rw[show (92:Int)=(((92:UInt8).toNat:Nat):Int) from rfl,b3];simp[c3]
      have hst:strR s (j+1) (said++[s[j]])=r:=by rw[←HE.out,strR_plain s j said hlt (by rw[hbt];exact c1) (by rw[hbt];exact c2) (by rw[hbt];exact c3),hbt]
      have HST:=hide hst;clear b1 b2 b3 c1 c2 c3 hbt hst HE
      go_wp2_with (at_builtin;refine wpList_append_own _ rfl _ _ 71 rfl (w.heap.size+1) 5 i0 (.int .u8 0) 1 1 Tryz.underlying71 hi hz0 hz1 hz2 rfl (by decide) _ _ _ rfl (HOWN.out.alloc _) ⟨wr.heap.size,0,none⟩ 1 1 [.int .u8 (s[j].toNat:Int)] rfl rfl ?c1 ?c2 ?c3 ?c4 ?c5 ?_)
      case c1=>
       intro j u hj
       match j,hj with
       | 0,hj=>simp at hj;subst hj;simp[Addr.add]
      case c2=>intro u hu;simp at hu;subst hu;rfl
      case c3=>unfold maxLen;omega
      case c4=>omega
      case c5=>simp;omega
      intro v' w1 hown' hgrow _;have R:=rel_app (b:=s[j]) _ HB.out hsz HOWN.out hown' hgrow;have HRR:=hide R;clear hown' hgrow R
      go_wp2
      go_roundw
      case rel=>exact⟨j+1,said++[s[j]],by omega,by simp;omega,by go_num,HST.out,HRR.out.1,HRR.out.2.1,HRR.out.2.2⟩
      case measure=>simp[intOf];omega
  ·have hst:r=.bad s.size:=by rw[←HE.out,strR_end s j said hlt]
   have hq2:q=.bad 3 s.size:=by rw[←HQ.out];unfold rdStr;rw[HR.out,hst]
   clear hst HR HE hown hB;subst hq2;exact zbaw
def rdTok (ws gs:List ByteArray)(s:ByteArray)(k:Nat):Rd:=
 if letB ((bt s k).toNat:Int)=true then rdName ws s k
 else if digB ((bt s k).toNat:Int)=true then rdNum s k
 else if bt s k=39 then rdStr s k
 else rdSign gs s k
structure Lists (ws gs:List ByteArray)(w:World):Prop where
 lw:ws.length=19
 lg:gs.length=19
 zg:∀ i,i<19→(gs.getD i ByteArray.empty).size≤3
 hw:∃ t fr,w.heap[6]? = some (.cells (ws.map Value.string).toArray t fr)
 hg:∃ t fr,w.heap[5]? = some (.cells (gs.map Value.string).toArray t fr)
theorem Lists.lt {ws gs:List ByteArray}{w:World}(h:Lists ws gs w):6<w.heap.size:=by
 obtain⟨t,fr,hg⟩:=h.hw
 exact(Array.getElem?_eq_some_iff.1 hg).1
theorem Lists.later {ws gs:List ByteArray}{w w':World}(h:Lists ws gs w)(hb:Below w.heap.size w w'):Lists ws gs w':=by
 obtain⟨t,fr,hw⟩:=h.hw
 obtain⟨t2,fr2,hg⟩:=h.hg
 have hl:=(Array.getElem?_eq_some_iff.1 hw).1
 have hl2:=(Array.getElem?_eq_some_iff.1 hg).1
 exact⟨h.lw,h.lg,h.zg,⟨t,fr,by rw[hb.block 6 (by omega)];exact hw⟩,⟨t2,fr2,by rw[hb.block 5 (by omega)];exact hg⟩⟩
section
variable (ws gs:List ByteArray) (s:ByteArray) (k:Nat) (kd n:Int) (tx:ByteArray) (e:Nat) (w:World) (hs:s.size≤3000) (hk:k<s.size) (hL:Lists ws gs w)
include ws gs s k kd n tx e w hs hk hL
open zrqcj in
theorem read_name_ok (hl:letB (s[k].toNat:Int)=true)(hr:rdName ws s k=.tok kd tx n e) :
  Calls Tryz.prog 100 #[.string s,.int .i64 (k:Int)] w (RPost k (.tok kd tx n e) w):=by
 exact zru
open zrqcd in
theorem read_num_ok (hl:letB (s[k].toNat:Int)=false)(hd:digB (s[k].toNat:Int)=true)(hr:rdNum s k=.tok kd tx n e) :
  Calls Tryz.prog 100 #[.string s,.int .i64 (k:Int)] w (RPost k (.tok kd tx n e) w):=by
 exact zrj
open zrqce in
theorem read_str_ok (hl:letB (s[k].toNat:Int)=false)(hd:digB (s[k].toNat:Int)=false)(hq:(((s[k].toNat:Nat):Int)==39)=true)(hr:rdStr s k=.tok kd tx n e) :
  Calls Tryz.prog 100 #[.string s,.int .i64 (k:Int)] w (RPost k (.tok kd tx n e) w):=by
 exact zrj
open zrqcf in
theorem read_sign_ok (hl:letB (s[k].toNat:Int)=false)(hd:digB (s[k].toNat:Int)=false)(hq:(((s[k].toNat:Nat):Int)==39)=false)(hr:rdSign gs s k=.tok kd tx n e) :
  Calls Tryz.prog 100 #[.string s,.int .i64 (k:Int)] w (RPost k (.tok kd tx n e) w):=by
 exact zrj
end
section
variable (ws gs:List ByteArray) (s:ByteArray) (k:Nat) (er:Int) (p:Nat) (w:World) (hs:s.size≤3000) (hk:k<s.size) (hL:Lists ws gs w)
include ws gs s k er p w hs hk hL
open zrqck in
theorem read_name_bad (hl:letB (s[k].toNat:Int)=true)(hr:rdName ws s k=.bad er p) :
  Calls Tryz.prog 100 #[.string s,.int .i64 (k:Int)] w (RPost k (.bad er p) w):=by
 exact zru
open zrqcg in
theorem read_num_bad (hl:letB (s[k].toNat:Int)=false)(hd:digB (s[k].toNat:Int)=true)(hr:rdNum s k=.bad er p) :
  Calls Tryz.prog 100 #[.string s,.int .i64 (k:Int)] w (RPost k (.bad er p) w):=by
 exact zrj
open zrqch in
theorem read_str_bad (hl:letB (s[k].toNat:Int)=false)(hd:digB (s[k].toNat:Int)=false)(hq:(((s[k].toNat:Nat):Int)==39)=true)(hr:rdStr s k=.bad er p) :
  Calls Tryz.prog 100 #[.string s,.int .i64 (k:Int)] w (RPost k (.bad er p) w):=by
 exact zrj
open zrqci in
theorem read_sign_bad (hl:letB (s[k].toNat:Int)=false)(hd:digB (s[k].toNat:Int)=false)(hq:(((s[k].toNat:Nat):Int)==39)=false)(hr:rdSign gs s k=.bad er p) :
  Calls Tryz.prog 100 #[.string s,.int .i64 (k:Int)] w (RPost k (.bad er p) w):=by
 exact zrj
end
theorem read_any (ws gs:List ByteArray)(s:ByteArray)(k:Nat)(w:World)(hs:s.size≤3000)(hk:k<s.size)(hL:Lists ws gs w) :
  Calls Tryz.prog 100 #[.string s,.int .i64 (k:Int)] w (RPost k (rdTok ws gs s k) w):=by
 have hbt:=bt_eq s k hk
 have hb:=byte_eq s[k] 39
 unfold rdTok
 rw[hbt]
 cases hl:letB (s[k].toNat:Int)
 ·rw[if_neg (by simp)]
  cases hd:digB (s[k].toNat:Int)
  ·rw[if_neg (by simp)]
   by_cases hq:s[k]=39
   ·rw[if_pos hq];have hq2:(((s[k].toNat:Nat):Int)==39)=true:=by rw[hq];rfl
    cases hr:rdStr s k with
    | tok kd tx n e=>exact read_str_ok ws gs s k kd n tx e w hs hk hL hl hd hq2 hr
    | bad er p=>exact read_str_bad ws gs s k er p w hs hk hL hl hd hq2 hr
   ·rw[if_neg hq];have hq2:(((s[k].toNat:Nat):Int)==39)=false:=by rw[show (39:Int)=(((39:UInt8).toNat:Nat):Int) from rfl,hb];simp[hq]
    cases hr:rdSign gs s k with
    | tok kd tx n e=>exact read_sign_ok ws gs s k kd n tx e w hs hk hL hl hd hq2 hr
    | bad er p=>exact read_sign_bad ws gs s k er p w hs hk hL hl hd hq2 hr
  ·rw[if_pos rfl]
   cases hr:rdNum s k with
   | tok kd tx n e=>exact read_num_ok ws gs s k kd n tx e w hs hk hL hl hd hr
   | bad er p=>exact read_num_bad ws gs s k er p w hs hk hL hl hd hr
 ·rw[if_pos rfl]
  cases hr:rdName ws s k with
  | tok kd tx n e=>exact read_name_ok ws gs s k kd n tx e w hs hk hL hl hr
  | bad er p=>exact read_name_bad ws gs s k er p w hs hk hL hl hr
structure Tk where
 kd:Int
 tx:ByteArray
 n:Int
 pl:Nat
inductive TR where
 | ok (l:List Tk)
 | bad (er:Int) (p:Nat)
def toksR (ws gs:List ByteArray)(s:ByteArray)(i:Nat)(acc:List Tk):TR:=
 if h:i<s.size then
  match rdTok ws gs s i with
  | .tok kd tx n e=>if h2:i<e then toksR ws gs s (pastN gapB s e) (acc++[⟨kd,tx,n,i⟩]) else .bad 0 0
  | .bad er p=>.bad er p
 else .ok (acc++[⟨6,⟨#[]⟩,0,s.size⟩])
termination_by s.size - i
decreasing_by
 have:=pastN_ge gapB s e
 omega
section
variable (ws gs:List ByteArray) (s:ByteArray) (i:Nat) (acc:List Tk)
include ws gs s i acc
theorem toksR_end (h:¬ i<s.size):toksR ws gs s i acc=.ok (acc++[⟨6,⟨#[]⟩,0,s.size⟩]):=by rw[toksR,dif_neg h]
theorem toksR_bad (er:Int)(p:Nat)(h:i<s.size)(hr:rdTok ws gs s i=.bad er p):toksR ws gs s i acc=.bad er p:=by rw[toksR,dif_pos h,hr]
theorem toksR_go (kd n:Int)(tx:ByteArray)(e:Nat)(h:i<s.size)(hr:rdTok ws gs s i=.tok kd tx n e)(he:i<e):toksR ws gs s i acc=toksR ws gs s (pastN gapB s e) (acc++[⟨kd,tx,n,i⟩]):=by
 conv=>lhs;rw[toksR]
 rw[dif_pos h,hr]
 simp only
 rw[dif_pos he]
end
theorem strR_bounds (s:ByteArray):∀ n i said l e,s.size - i=n→strR s i said=.ok l e→i<e∧e≤s.size∧l.length≤said.length+(s.size - i):=by
 intro n
 induction n using Nat.strongRecOn with
 | ind n ih=>
  intro i said l e hn h
  by_cases hlt:i<s.size
  ·by_cases c1:bt s i=39
   ·rw[strR_quote s i said hlt c1] at h;cases h;exact⟨by omega,by omega,by omega⟩
   ·by_cases c2:bt s i=10
    ·rw[strR_lf s i said hlt c2] at h;cases h
    ·by_cases c3:bt s i=92
     ·by_cases h1:i+1<s.size
      ·
       cases hm:esc (bt s (i+1)) with
       | none=>rw[strR_noesc s i said hlt c3 (fun _=>hm)] at h;cases h
       | some m=>
        rw[strR_esc s i said m hlt c3 h1 hm] at h;have:=ih (s.size - (i+2)) (by omega) (i+2) _ l e rfl h;rw[List.length_append,List.length_singleton] at this;omega
      ·rw[strR_noesc s i said hlt c3 (fun hh=>absurd hh h1)] at h;cases h
     ·rw[strR_plain s i said hlt c1 c2 c3] at h;have:=ih (s.size - (i+1)) (by omega) (i+1) _ l e rfl h;rw[List.length_append,List.length_singleton] at this;omega
  ·rw[strR_end s i said hlt] at h;cases h
theorem rdTok_bounds (ws gs:List ByteArray)(s:ByteArray)(k:Nat)(kd n:Int)(tx:ByteArray)(e:Nat)(hk:k<s.size)(hg:∀ g ∈ gs,1≤g.size)
  (h:rdTok ws gs s k=.tok kd tx n e):k<e∧e≤s.size:=by
 have hbt:=bt_eq s k hk
 unfold rdTok at h
 rw[hbt] at h
 split at h
 ·rename_i hl
  have hlod:lodB (s[k].toNat:Int)=true:=by unfold lodB;rw[hl];rfl
  have h1:=pastN_go lodB s k hk hlod;have h2:=pastN_ge lodB s (k+1);have h3:=pastN_le lodB s k (by omega);unfold rdName at h
  split at h
  ·
   cases h;omega
  ·split at h
   ·
    cases h
   ·
    cases h;omega
 ·split at h
  ·rename_i hd
   have h1:=pastN_go digB s k hk hd;have h2:=pastN_ge digB s (k+1);have h3:=pastN_le digB s k (by omega);unfold rdNum at h
   split at h
   ·
    cases h
   ·split at h
    ·
     cases h
    ·split at h
     ·
      cases h
     ·
      cases h;omega
  ·split at h
   ·unfold rdStr at h
    cases hr:strR s (k+1) [] with
    | ok said e'=>
     rw[hr] at h;simp only at h;have hb:=strR_bounds s _ (k+1) [] said e' rfl hr
     split at h
     ·
      cases h
     ·
      cases h;omega
    | bad p=>rw[hr] at h;cases h
   ·unfold rdSign at h
    cases hf:gs.find? (fun g=>pfxB (s.extract k s.size) g) with
    | none=>rw[hf] at h;cases h
    | some g=>
     rw[hf] at h;obtain⟨_,_,_,he⟩:=Rd.tok.inj h;have hm:=List.mem_of_find?_eq_some hf;have hp:=List.find?_some hf;have h1:=hg g hm;simp only[pfxB,Bool.and_eq_true,decide_eq_true_eq] at hp
     have hz:=extract_size s k s.size (by omega) (Nat.le_refl _);omega
def tkCells (t:Tk):List Value:=[.int .i64 t.kd,.string t.tx,.int .i64 t.n,.int .i64 (t.pl:Int)]
def tksCells (l:List Tk):List Value:=l.flatMap tkCells
theorem tksCells_snoc (l:List Tk)(t:Tk):tksCells (l++[t])=tksCells l++tkCells t:=by simp[tksCells]
def TPost (r:TR)(w:World)(e:Ending)(w':World):Prop:=
 match r with
 | .ok l=>∃ v,e=.returned (.tuple #[v,.nilIface])∧w'.ownsRow w.heap.size 138 4 v l.length (tksCells l)∧Below w.heap.size w w'
 | .bad er p=>∃ b,e=.returned (.tuple #[.slice none 0 0,.iface 144 (.pointer (some ⟨b,0,none⟩))])∧w'.heap[b]? = some (.cells #[.int .i64 er,.int .i64 (p:Int)] 145 (0,0))∧w.heap.size≤b∧Below w.heap.size w w'
theorem info35:(Tryz.prog.info? 138).map (fun i=>(i.zero,i.size,i.bytes))=some (some noTok,4,40):=by kernel_rfl
theorem owns_below {wr w3:World}{B:Nat}{v:Value}{n:Nat}{xs:List Value}(hb:Below wr.heap.size wr w3)(h:wr.ownsRow B 138 4 v n xs):w3.ownsRow B 138 4 v n xs:=by
 exact zbfj
theorem owns_base {w:World}{B B':Nat}{v:Value}{n:Nat}{xs:List Value}(hb:B'≤B)(h:w.ownsRow B 138 4 v n xs):w.ownsRow B' 138 4 v n xs:=by
 exact zbgi
theorem rel_grown {B:Nat}{W0 wx w1:World}{v:Value}{n:Nat}{xs:List Value}(hB:Below B W0 wx)(hsz:B≤wx.heap.size)(hown:wx.ownsRow B 138 4 v n xs)(hg:wx.grownBy w1 v.ownBlock) :
  Below B W0 w1:=hB.grown hg hsz (fun k hk=>by
  obtain⟨_,⟨rfl,_⟩|⟨g,cap,cur,rfl,hge,_⟩⟩:=hown
  ·simp[Value.ownBlock] at hk
  ·simp[Value.ownBlock] at hk;omega)
theorem tokens_long (s:ByteArray)(w:World)(hs:3000<s.size) :
  Calls Tryz.prog 42 #[.string s] w fun e w'=>e=.returned (.tuple #[.slice none 0 0,.iface 31 (.int .i64 4)])∧w'=w:=by
 go_enter Tryz.func42,Tryz.ntmps42
 go_wp2
 go_ret2
 exact⟨rfl,rfl⟩
theorem tokens_any (ws gs:List ByteArray)(s:ByteArray)(w:World)(hs:s.size≤3000)(hL:Lists ws gs w)(hgs:∀ g ∈ gs,1≤g.size) :
  Calls Tryz.prog 42 #[.string s] w (TPost (toksR ws gs s (pastN gapB s 0) []) w):=by
 obtain⟨i0,hi,hz0,hz1,hz2⟩:=info_parts info35
 obtain⟨r,hr⟩:∃ r,toksR ws gs s (pastN gapB s 0) []=r:=⟨_,rfl⟩
 have HR:=hide hr
 rw[hr]
 have HL:=hide hL
 have HGS:=hide hgs
 clear hr hL hgs
 go_enter Tryz.func42,Tryz.ntmps42
 go_wp2_with fail
 refine(among_any _ _).mono ?_
 rintro e1 w1 ⟨x,rfl,hx,hbel⟩
 have HX:=hide (hx.congr inB_gap)
 have HBEL:=hide hbel
 clear hx hbel
 go_wp2_with fail
 refine(past_any s 0 x gapB w1 (by unfold maxLen;omega) (Nat.zero_le _) HX.out).mono ?_
 rintro e2 w2 ⟨rfl,rfl⟩
 have hp0:=pastN_le gapB s 0 (Nat.zero_le _)
 obtain⟨p0,hp⟩:∃ p0,pastN gapB s 0=p0:=⟨_,rfl⟩
 rw[hp] at hp0 ⊢
 have HR2:Hid (toksR ws gs s p0 []=r):=by show _=_;rw[←hp];exact unhide HR
 clear hp HR
 go_wp2_with fail
 go_loopw [5,6,7,8,9] (fun v i _ _ _ wr=>∃ (j:Nat) (acc:List Tk),j≤s.size∧acc.length≤j∧i=.int .i64 j∧toksR ws gs s j acc=r∧wr.ownsRow w2.heap.size 138 4 v acc.length (tksCells acc)∧Below w2.heap.size w2 wr∧w2.heap.size≤wr.heap.size) (fun _ i _ _ _ _=>s.size - (intOf i).toNat)
 case atStart=>exact⟨p0,[],hp0,by simp,rfl,HR2.out,World.ownsRow_nil _ _ _ _,Below.refl _ _,Nat.le_refl _⟩
 case round=>
  obtain⟨j,acc,hj,hal,rfl,he,hown,hB,hsz⟩:=hrel;have HE:=hide he;have HOWN:=hide hown;have HB:=hide hB;clear he hown hB HR2;have hLr:=(HL.out.later HBEL.out).later HB.out;have HLR:=hide hLr
  clear hLr
  by_cases hlt:j<s.size
  ·
   cases hrd:rdTok ws gs s j with
   | tok kd tx n e=>
    have hb:=rdTok_bounds ws gs s j kd n tx e hlt HGS.out hrd;have HST:=hide ((toksR_go ws gs s j acc kd n tx e hlt hrd hb.1).symm.trans HE.out);have HRD:=hide hrd;obtain⟨hb1,hb2⟩:=hb;clear hrd HE
    go_wp2_with fail;have hread:=read_any ws gs s j wr hs hlt HLR.out;rw[HRD.out] at hread;refine cm hread ?_;clear hread;rintro e3 w3 ⟨rfl,hb3⟩;have hB3:=HB.out.trans (hb3.mono hsz);have HB3:=hide hB3
    have HOWN3:=hide (owns_below hb3 HOWN.out);have hsz3:w2.heap.size≤w3.heap.size:=hB3.size;clear hb3 hB3
    go_wp2_with (at_builtin;refine wpList_append_own _ rfl _ _ 78 rfl w2.heap.size 138 i0 noTok 4 40 Tryz.underlying78 hi hz0 hz1 hz2 rfl (by decide) _ _ _ rfl ((HOWN3.out.alloc _).alloc _) ⟨w3.heap.size+1,0,none⟩ 1 1 [.int .i64 kd,.string tx,.int .i64 n,.int .i64 (j:Int)] rfl rfl ?c1 ?c2 ?c3 ?c4 ?c5 ?_)
    case c1=>
     exact zbaz
    case c2=>
     exact zbbr
    case c3=>unfold maxLen;omega
    case c4=>omega
    case c5=>simp;omega
    intro v' w5 hown' hgrow _;have hB5:=rel_grown ((HB3.out.alloc hsz3 _).alloc (by simp;omega) _) (by simp;omega) ((HOWN3.out.alloc _).alloc _) hgrow
    have HB5:=hide hB5;have HOWN5:Hid (w5.ownsRow w2.heap.size 138 4 v' (acc++[Tk.mk kd tx n j]).length (tksCells (acc++[Tk.mk kd tx n j]))):=by
     show World.ownsRow _ _ _ _ _ _ _
     rw[tksCells_snoc,List.length_append];exact hown'
    have hge:=pastN_ge gapB s e;have hle:=pastN_le gapB s e hb2;obtain⟨e',he'⟩:∃ e',pastN gapB s e=e':=⟨_,rfl⟩;rw[he'] at hge hle;have HEE:=hide he';clear hown' hgrow hB5 he';go_wp2_with fail
    have hpast:=past_any s e x gapB w5 (by unfold maxLen;omega) hb2 (HX.out.later HB5.out)
    rw[HEE.out] at hpast;refine hpast.mono ?_;clear hpast;rintro e6 w6 ⟨rfl,rfl⟩;go_wp2_with fail
    go_roundw
    case rel=>exact⟨e',acc++[Tk.mk kd tx n j],hle,by simp;omega,rfl,by have:=unhide HST;rw[HEE.out] at this;exact this,HOWN5.out,HB5.out,HB5.out.size⟩
    case measure=>simp[intOf];omega
   | bad er p=>
    have hq:r=.bad er p:=by rw[←HE.out,toksR_bad ws gs s j acc er p hlt hrd]
    have HRD:=hide hrd;clear hrd HE;subst hq;go_wp2_with fail;have hread:=read_any ws gs s j wr hs hlt HLR.out;rw[HRD.out] at hread;refine cm hread ?_;clear hread;rintro e3 w3 ⟨b,rfl,hb,hlb,hb3⟩
    have HBB:=hide hb;have HB3:=hide (HB.out.trans (hb3.mono hsz));have hsz3:=Nat.le_trans hsz hb3.size;have hlb2:=Nat.le_trans hsz hlb;clear hb3 hb;go_wp2_with fail
    go_ret2
    have b1:=unhide HBEL;have b3:=unhide HB3;refine⟨b,rfl,?_,Nat.le_trans b1.size hlb2,(b1.trans (b3.mono b1.size)).alloc (Nat.le_trans b1.size hsz3) _⟩
    rw[Below.heap_alloc w3 _ b (Array.getElem?_eq_some_iff.1 HBB.out).1];exact unhide HBB
  ·have hq:r=.ok (acc++[Tk.mk 6 ⟨#[]⟩ 0 s.size]):=by rw[←HE.out,toksR_end ws gs s j acc hlt]
   clear HE;subst hq
   go_wp2_with (at_builtin;refine wpList_append_own _ rfl _ _ 78 rfl w2.heap.size 138 i0 noTok 4 40 Tryz.underlying78 hi hz0 hz1 hz2 rfl (by decide) _ _ _ rfl (HOWN.out.alloc _) ⟨wr.heap.size,0,none⟩ 1 1 [.int .i64 6,.string ⟨#[]⟩,.int .i64 0,.int .i64 (s.size:Int)] rfl rfl ?c1 ?c2 ?c3 ?c4 ?c5 ?_)
   case c1=>
    exact zbaz
   case c2=>
    exact zbbr
   case c3=>unfold maxLen;omega
   case c4=>omega
   case c5=>simp;omega
   intro v' w5 hown' hgrow _;have hB5:=rel_grown (HB.out.alloc hsz _) (by simp;omega) (HOWN.out.alloc _) hgrow
   have HB5:=hide hB5;have HOWN5:Hid (w5.ownsRow w2.heap.size 138 4 v' (acc++[Tk.mk 6 ⟨#[]⟩ 0 s.size]).length (tksCells (acc++[Tk.mk 6 ⟨#[]⟩ 0 s.size]))):=by
    show World.ownsRow _ _ _ _ _ _ _
    rw[tksCells_snoc,List.length_append];exact hown'
   clear hown' hgrow hB5;go_wp2_with fail
   go_ret2
   have b1:=unhide HBEL;exact⟨v',rfl,owns_base b1.size HOWN5.out,b1.trans (HB5.out.mono b1.size)⟩
end Go.Proofs.YtoimgcjbcbhclaaGreatDoor
namespace Go.Proofs.YtoimgcjbcbhclaaGreatDoor
inductive Tr where
 | mk (kd:Int) (tx:ByteArray) (n:Int) (kids:List Tr)
def Tr.kd:Tr→Int | .mk k _ _ _=>k
def Tr.tx:Tr→ByteArray | .mk _ t _ _=>t
def Tr.n:Tr→Int | .mk _ _ n _=>n
def Tr.kids:Tr→List Tr | .mk _ _ _ l=>l
inductive PR (α:Type) where
 | ok (x:α) (i:Nat)
 | bad (er:Int) (p:Nat)
 | out
def PR.bind {α β:Type}:PR α→(α→Nat→PR β)→PR β
 | .ok x i,f=>f x i
 | .bad er p,_=>.bad er p
 | .out,_=>.out
abbrev noText:ByteArray:=⟨#[]⟩
abbrev tVar:ByteArray:=⟨#[118,97,114]⟩
abbrev tLet:ByteArray:=⟨#[108,101,116]⟩
abbrev tConst:ByteArray:=⟨#[99,111,110,115,116]⟩
abbrev tFunction:ByteArray:=⟨#[102,117,110,99,116,105,111,110]⟩
abbrev tIf:ByteArray:=⟨#[105,102]⟩
abbrev tElse:ByteArray:=⟨#[101,108,115,101]⟩
abbrev tWhile:ByteArray:=⟨#[119,104,105,108,101]⟩
abbrev tWith:ByteArray:=⟨#[119,105,116,104]⟩
abbrev tReturn:ByteArray:=⟨#[114,101,116,117,114,110]⟩
abbrev tThrow:ByteArray:=⟨#[116,104,114,111,119]⟩
abbrev tTry:ByteArray:=⟨#[116,114,121]⟩
abbrev tCatch:ByteArray:=⟨#[99,97,116,99,104]⟩
abbrev tFinally:ByteArray:=⟨#[102,105,110,97,108,108,121]⟩
abbrev tTypeof:ByteArray:=⟨#[116,121,112,101,111,102]⟩
abbrev tDelete:ByteArray:=⟨#[100,101,108,101,116,101]⟩
abbrev tTrue:ByteArray:=⟨#[116,114,117,101]⟩
abbrev tFalse:ByteArray:=⟨#[102,97,108,115,101]⟩
abbrev tNull:ByteArray:=⟨#[110,117,108,108]⟩
abbrev tUndef:ByteArray:=⟨#[117,110,100,101,102,105,110,101,100]⟩
abbrev tOpen:ByteArray:=⟨#[40]⟩
abbrev tShut:ByteArray:=⟨#[41]⟩
abbrev tLBrace:ByteArray:=⟨#[123]⟩
abbrev tRBrace:ByteArray:=⟨#[125]⟩
abbrev tSemi:ByteArray:=⟨#[59]⟩
abbrev tComma:ByteArray:=⟨#[44]⟩
abbrev tColon:ByteArray:=⟨#[58]⟩
abbrev tDot:ByteArray:=⟨#[46]⟩
abbrev tEq:ByteArray:=⟨#[61]⟩
abbrev tOr:ByteArray:=⟨#[124,124]⟩
abbrev tAnd:ByteArray:=⟨#[38,38]⟩
abbrev tSame:ByteArray:=⟨#[61,61,61]⟩
abbrev tLess:ByteArray:=⟨#[60]⟩
abbrev tAdd:ByteArray:=⟨#[43]⟩
abbrev tSub:ByteArray:=⟨#[45]⟩
abbrev tMul:ByteArray:=⟨#[42]⟩
abbrev tNot:ByteArray:=⟨#[33]⟩
abbrev tStrict:ByteArray:=⟨#[115,116,114,105,99,116]⟩
abbrev tUse:ByteArray:=⟨#[117,115,101,32,115,116,114,105,99,116]⟩
structure Sg where
 tx:ByteArray
 kd:Int
 parts:Int
 str:Int
def sgs:List Sg:=[⟨tOr,25,2,2⟩,⟨tAnd,26,2,3⟩,⟨tSame,27,2,4⟩,⟨tLess,28,2,5⟩,⟨tAdd,29,2,6⟩,⟨tSub,30,2,6⟩,⟨tMul,31,2,7⟩,⟨tNot,32,1,8⟩,⟨tTypeof,33,1,8⟩,⟨tDelete,34,1,8⟩,⟨tTrue,19,0,10⟩,⟨tFalse,20,0,10⟩,⟨tNull,21,0,10⟩,⟨tUndef,22,0,10⟩]
def hds:List (ByteArray × Int):=[(tVar,2),(tLet,3),(tConst,4),(tIf,7),(tWhile,8),(tWith,9),(tReturn,10),(tThrow,11)]
def stKeys:List (ByteArray × Nat):=[(tVar,0),(tLet,0),(tConst,0),(tFunction,1),(tLBrace,2),(tSemi,3),(tIf,4),(tWhile,5),(tWith,5),(tReturn,6),(tThrow,6),(tTry,7)]
def vlKeys:List (ByteArray × Nat):=[(tOpen,0),(tLBrace,1),(tFunction,2)]
def look2 {β:Type}(l:List (ByteArray × β))(s:ByteArray):Option β:=(l.find? (fun e=>decide (s=e.1))).map (·.2)
def sgOf (s:ByteArray):Option Sg:=sgs.find? (fun e=>decide (s=e.tx))
def sgP (k:Int)(s:ByteArray):Option Sg:=(sgOf s).filter (fun e=>e.parts==k)
def hdKind (s:ByteArray):Int:=(look2 hds s).getD 0
section
variable (l:List Tk)
def tkA (i:Nat):Tk:=l.getD i ⟨6,noText,0,0⟩
def fx (i:Nat):ByteArray:=if (tkA l i).kd==2||(tkA l i).kd==5 then (tkA l i).tx else noText
def badF {α:Type}(er:Int)(i:Nat):PR α:=.bad er (tkA l i).pl
def mustP (s:ByteArray)(i:Nat):PR Unit:=if fx l i=s then .ok () (i+1) else badF l 3 i
def nameP (i:Nat):PR ByteArray:=if (tkA l i).kd=1 then .ok (tkA l i).tx (i+1) else badF l 3 i
def deepP (f:Nat→Nat→PR Tr)(d i:Nat):PR Tr:=if d=30 then badF l 4 i else f (d+1) i
def isName (i:Nat):Bool:=(tkA l i).kd==1
def isVal (i:Nat):Bool:=(tkA l i).kd==1||(tkA l i).kd==3||(tkA l i).kd==4||(look2 vlKeys (fx l i)).isSome||((sgOf (fx l i)).filter (fun e=>decide (e.parts<2))).isSome
structure Fns where
 fuel:Nat
 st:Nat→Nat→PR Tr
 vl:Nat→Nat→PR Tr
 pr:Int→Nat→Nat→PR Tr
 sg:Nat→Nat→PR Tr
def noFns:Fns:=⟨0,fun _ _=>.out,fun _ _=>.out,fun _ _ _=>.out,fun _ _=>.out⟩
def listLoop (shut:ByteArray)(begins:Nat→Bool)(part:Nat→PR Tr):Nat→List Tr→Nat→PR (List Tr)
 | 0,_,_=>.out
 | k+1,acc,i=>if acc.length=8∧begins i=true then badF l 4 i else
  (part i).bind fun t i1=>if fx l i1=shut then .ok (acc++[t]) (i1+1) else
   (mustP l tComma i1).bind fun _ i2=>listLoop shut begins part k (acc++[t]) i2
def listP (opn shut:ByteArray)(begins:Nat→Bool)(part:Nat→PR Tr)(k i:Nat):PR (List Tr):=
 (mustP l opn i).bind fun _ i1=>if fx l i1=shut then .ok [] (i1+1) else listLoop l shut begins part k [] i1
def codeT:Tr→Tr
 | .mk kd tx n (.mk k1 t1 n1 (.mk k2 t2 n2 l2::r1)::r)=>.mk kd (if k1=15∧k2=18∧t2=tUse then tStrict else tx) n (.mk k1 t1 n1 (.mk k2 t2 n2 l2::r1)::r)
 | t=>t
def blockLoop (F:Fns)(d:Nat):Nat→List Tr→Nat→PR (List Tr)
 | 0,_,_=>.out
 | k+1,acc,i=>if fx l i=tRBrace then .ok acc (i+1) else
  (deepP l F.st d i).bind fun t i1=>blockLoop F d k (acc++[t]) i1
def blockP (F:Fns)(d i:Nat):PR Tr:=
 (mustP l tLBrace i).bind fun _ i1=>(blockLoop l F d F.fuel [] i1).bind fun ts i2=>.ok (.mk 6 noText 0 ts) i2
def paramP (i:Nat):PR Tr:=(nameP l i).bind fun s i1=>.ok (.mk 23 s 0 []) i1
def paramsP (F:Fns)(i:Nat):PR Tr:=(listP l tOpen tShut (isName l) (paramP l) F.fuel i).bind fun ts i1=>.ok (.mk 40 noText 0 ts) i1
def argP (F:Fns)(d i:Nat):PR Tr:=deepP l F.vl d i
def propP (F:Fns)(d i:Nat):PR Tr:=
 (nameP l i).bind fun s i1=>(mustP l tColon i1).bind fun _ i2=>(deepP l F.vl d i2).bind fun t i3=>.ok (.mk 39 s 0 [t]) i3
def inParP (F:Fns)(d i:Nat):PR Tr:=
 (mustP l tOpen i).bind fun _ i1=>(deepP l F.vl d i1).bind fun t i2=>(mustP l tShut i2).bind fun _ i3=>.ok t i3
def objectP (F:Fns)(d i:Nat):PR Tr:=
 (listP l tLBrace tRBrace (isName l) (propP l F d) F.fuel i).bind fun ts i1=>.ok (.mk 38 noText 0 ts) i1
def funcTail (F:Fns)(kd:Int)(s:ByteArray)(d i:Nat):PR Tr:=
 (paramsP l F i).bind fun ps i1=>(blockP l F d i1).bind fun b i2=>.ok (.mk kd s 0 [ps,codeT b]) i2
def lambdaP (F:Fns)(d i:Nat):PR Tr:=
 (mustP l tFunction i).bind fun _ i1=>if isName l i1=true then (nameP l i1).bind fun s i2=>funcTail l F 37 s d i2 else funcTail l F 37 noText d i1
def funcP (F:Fns)(d i:Nat):PR Tr:=
 (mustP l tFunction i).bind fun _ i1=>(nameP l i1).bind fun s i2=>funcTail l F 5 s d i2
def aloneP (F:Fns)(d i:Nat):PR Tr:=
 match look2 vlKeys (fx l i) with
 | some 0=>inParP l F d i
 | some 1=>objectP l F d i
 | some _=>lambdaP l F d i
 | none=>
  match sgP 0 (fx l i) with
  | some s=>.ok (.mk s.kd noText 0 []) (i+1)
  | none=>
   if (tkA l i).kd=1 then .ok (.mk 23 (tkA l i).tx 0 []) (i+1)
   else if (tkA l i).kd=4 then .ok (.mk 18 (tkA l i).tx 0 []) (i+1)
   else if (tkA l i).kd=3 then .ok (.mk 17 noText (tkA l i).n []) (i+1)
   else badF l 3 i
def askedLoop (F:Fns)(d:Nat):Nat→Tr→Nat→PR Tr
 | 0,_,_=>.out
 | k+1,t,i=>
  if fx l i=tDot then (nameP l (i+1)).bind fun s i1=>askedLoop F d k (.mk 36 s 0 [t]) i1
  else if fx l i=tOpen then (listP l tOpen tShut (isVal l) (argP l F d) F.fuel i).bind fun ts i1=>askedLoop F d k (.mk 35 noText 0 (t::ts)) i1
  else .ok t i
def askedP (F:Fns)(d i:Nat):PR Tr:=(aloneP l F d i).bind fun t i1=>askedLoop l F d F.fuel t i1
def singleP (F:Fns)(d i:Nat):PR Tr:=
 match sgP 1 (fx l i) with
 | some s=>(deepP l F.sg d (i+1)).bind fun t i1=>.ok (.mk s.kd noText 0 [t]) i1
 | none=>askedP l F d i
def pairLoop (F:Fns)(least:Int)(d:Nat):Nat→Tr→Nat→PR Tr
 | 0,_,_=>.out
 | k+1,t,i=>
  match sgP 2 (fx l i) with
  | none=>.ok t i
  | some s=>if s.str<least then .ok t i else (F.pr (s.str+1) d (i+1)).bind fun u i1=>pairLoop F least d k (.mk s.kd noText 0 [t,u]) i1
def pairP (F:Fns)(least:Int)(d i:Nat):PR Tr:=(F.sg d i).bind fun t i1=>pairLoop l F least d F.fuel t i1
def valueP (F:Fns)(d i:Nat):PR Tr:=
 (F.pr 2 d i).bind fun t i1=>if fx l i1=tEq then
   (if t.kd=23∨t.kd=36 then (deepP l F.vl d (i1+1)).bind fun v i2=>.ok (.mk 24 noText 0 [t,v]) i2 else badF l 1 i)
  else .ok t i1
def declP (F:Fns)(d i:Nat):PR Tr:=
 (nameP l (i+1)).bind fun s i1=>
  if hdKind (tkA l i).tx=4∧¬ fx l i1=tEq then badF l 3 i1
  else if fx l i1=tEq then (deepP l F.vl d (i1+1)).bind fun v i2=>(mustP l tSemi i2).bind fun _ i3=>.ok (.mk (hdKind (tkA l i).tx) s 0 [v]) i3
  else (mustP l tSemi i1).bind fun _ i2=>.ok (.mk (hdKind (tkA l i).tx) s 0 []) i2
def behindP (F:Fns)(d i:Nat):PR Tr:=
 (inParP l F d (i+1)).bind fun v i1=>(deepP l F.st d i1).bind fun s i2=>.ok (.mk (hdKind (tkA l i).tx) noText 0 [v,s]) i2
def choiceP (F:Fns)(d i:Nat):PR Tr:=
 (inParP l F d (i+1)).bind fun v i1=>(deepP l F.st d i1).bind fun s i2=>
  if fx l i2=tElse then (deepP l F.st d (i2+1)).bind fun s2 i3=>.ok (.mk (hdKind (tkA l i).tx) noText 0 [v,s,s2]) i3
  else .ok (.mk (hdKind (tkA l i).tx) noText 0 [v,s]) i2
def givingP (F:Fns)(d i:Nat):PR Tr:=
 if hdKind (tkA l i).tx=11∨¬ fx l (i+1)=tSemi then (deepP l F.vl d (i+1)).bind fun v i1=>(mustP l tSemi i1).bind fun _ i2=>.ok (.mk (hdKind (tkA l i).tx) noText 0 [v]) i2
 else (mustP l tSemi (i+1)).bind fun _ i2=>.ok (.mk (hdKind (tkA l i).tx) noText 0 []) i2
def catchP (F:Fns)(d i:Nat):PR (List Tr):=
 if fx l i=tCatch then (mustP l tOpen (i+1)).bind fun _ i1=>(nameP l i1).bind fun s i2=>(mustP l tShut i2).bind fun _ i3=>(blockP l F d i3).bind fun b i4=>.ok [.mk 13 s 0 [b]] i4
 else .ok [] i
def finallyP (F:Fns)(d i:Nat):PR (List Tr):=
 if fx l i=tFinally then (blockP l F d (i+1)).bind fun b i1=>.ok [.mk 14 noText 0 [b]] i1
 else .ok [] i
def attemptP (F:Fns)(d i:Nat):PR Tr:=
 (mustP l tTry i).bind fun _ i0=>(blockP l F d i0).bind fun b i1=>(catchP l F d i1).bind fun c i2=>(finallyP l F d i2).bind fun f i3=>
  if c.length+f.length=0 then badF l 3 i3 else .ok (.mk 12 noText 0 (b::(c++f))) i3
def exprP (F:Fns)(d i:Nat):PR Tr:=(deepP l F.vl d i).bind fun v i1=>(mustP l tSemi i1).bind fun _ i2=>.ok (.mk 15 noText 0 [v]) i2
def partP (F:Fns)(d:Nat):Nat→Nat→PR Tr
 | 0=>declP l F d
 | 1=>funcP l F d
 | 2=>blockP l F d
 | 3=>fun i=>(mustP l tSemi i).bind fun _ i1=>.ok (.mk 16 noText 0 []) i1
 | 4=>choiceP l F d
 | 5=>behindP l F d
 | 6=>givingP l F d
 | _=>attemptP l F d
def statementP (F:Fns)(d i:Nat):PR Tr:=
 match look2 stKeys (fx l i) with
 | some q=>partP l F d q i
 | none=>exprP l F d i
def fns:Nat→Fns
 | 0=>noFns
 | k+1=>⟨k,statementP l (fns k),valueP l (fns k),pairP l (fns k),singleP l (fns k)⟩
def progLoop (F:Fns):Nat→List Tr→Nat→PR (List Tr)
 | 0,_,_=>.out
 | k+1,acc,i=>if (tkA l i).kd=6 then .ok acc i else
  (deepP l F.st 0 i).bind fun t i1=>progLoop F k (acc++[t]) i1
def progP (F:Fns):PR Tr:=(progLoop l F F.fuel [] 0).bind fun ts i=>.ok (codeT (.mk 1 noText 0 ts)) i
end
mutual
def Tr.count:Tr→Nat
 | .mk _ _ _ ks=>1+Tr.counts ks
def Tr.counts:List Tr→Nat
 | []=>0
 | t::ts=>t.count+Tr.counts ts
end
end Go.Proofs.YtoimgcjbcbhclaaGreatDoor
