/-
  What the row's list of package variables gives the walks: the two lists of words, cell by cell.
-/
import Derived.Test.YtoimgcjbcbhclaaGreatDoorRows
import Derived.Test.YtoimgcjbcbhclaaGreatDoorWt15
import Derived.LaidMore
import Derived.RegionTactic
import Derived.Deep.RegionHeld
import Derived.Laws.IdiomStrings
import Derived.Laws.BytesArg
namespace Go.Proofs.YtoimgcjbcbhclaaGreatDoor
open Go.ChangeShapes Go.WideShapes Go.ChangeAt Go.WideMaps Go.WideElems Go.RowKit
theorem ownK:ownKnob Tryz.prog.godebug=none:=by kernel_rfl
theorem gWords : Tryz.prog.globalNamed "sloppyscope/lex.words" = some 6 := by kernel_rfl
theorem gRefWords : Tryz.prog.globalNamed "sloppyscope/sloppyref.words" = some 4 := by kernel_rfl
theorem gSigns : Tryz.prog.globalNamed "sloppyscope/lex.signs" = some 5 := by kernel_rfl
theorem tWords:(Tryz.prog.globals[6]?).map (·.type)=some 257:=by kernel_rfl
theorem tRefWords:(Tryz.prog.globals[4]?).map (·.type)=some 38:=by kernel_rfl
theorem tSigns:(Tryz.prog.globals[5]?).map (·.type)=some 257:=by kernel_rfl
theorem cells9:Tryz.prog.cellsOf 9=1:=by kernel_rfl
theorem cells53:Tryz.prog.cellsOf 257=19:=by kernel_rfl
theorem array_of_trod {W:World}{fuel:Nat}{cs:List Value}{p:List MemPlace}(L:List (List UInt8))(hL:L.length=19)
  (h:DataW.trod (fun _=>()) Tryz.prog W 0 (fun _=>true) false fuel 257 cs=some (.agg (L.map fun l=>.lit (.string l)),p)):cs=(L.map ofBytes).map Value.string:=by
 obtain⟨xs,m,rfl,hx,hlen,hn,hel⟩:=DataW.trod_array Tryz.underlying257 h
 simp only[Prod.mk.injEq,DataW.agg.injEq] at hx
 rw[cells53] at hlen
 refine List.ext_getElem (by simp[hL,hlen]) fun i h1 h2=>?_
 have hi:i<19:=by omega
 have he:=hel i hi
 rw[cells9,Nat.mul_one,List.getElem?_eq_getElem (by omega)] at he
 obtain⟨s,e1,e2,_⟩:=DataW.trod_string Tryz.underlying9 he
 have e3:(xs.map (·.1))[i]'(by simp[hn];omega)=.lit (.string (L[i]'(by omega))):=by
  have e4:(xs.map (·.1))[i]? =(L.map fun l=>(DataW.lit (.string l):DataW Unit))[i]?:=by rw[hx.1]
  rw[List.getElem?_eq_getElem (by simp[hn];omega),List.getElem?_eq_getElem (by simp;omega)] at e4
  simpa using e4
 rw[List.getElem_map,e2] at e3
 have e5:s.data.toList=L[i]'(by omega):=by simpa using e3
 have e6:(cs.drop i)[0]? = some (.string s):=by
  have:((cs.drop i).take 1)[0]? = some (.string s):=by rw[e1];rfl
  simpa using this
 rw[List.getElem?_drop,Nat.add_zero,List.getElem?_eq_getElem h1] at e6
 rw[Option.some.inj e6]
 simp[ofBytes_eq e5]
theorem heap_of_var {W:World}{n:String}{g:Nat}{cs:Array Value}(hg:Tryz.prog.globalNamed n=some g)(h:W.var? Tryz.prog n=some cs):∃ t fr,W.heap[g]? = some (.cells cs t fr):=by
 simp only[World.var?,hg,Option.bind_some] at h
 split at h
 ·rename_i cs' t fr hh
  cases h;exact⟨t,fr,hh⟩
 ·
  cases h
theorem slice_of_trod {W:World}{fuel:Nat}{cs:List Value}{p:List MemPlace}(L:List (List UInt8))
  (h:DataW.trod (fun _=>()) Tryz.prog W 0 (fun _=>true) false fuel 38 cs=some (.slice (L.map fun l=>.lit (.string l)) [],p)) :
  ∃ a cap,cs=[.slice (some a) L.length cap]∧∀ i,i<(L.map ofBytes).length→W.cell? (a.add i)=some (.string ((L.map ofBytes).getD i ByteArray.empty)):=by
 rcases open_strings Tryz.underlying38 Tryz.underlying9 cells9 h with ⟨_,hx⟩|⟨a,len,cap,ss,hcs,_,hl,_,hz,hx,hcell,_⟩
 ·simp at hx
 simp only[if_true] at hz
 simp only[Prod.mk.injEq,DataW.slice.injEq] at hx
 obtain⟨⟨hx1,hx2⟩,_⟩:=hx
 have hsl:ss.length=len:=by
  have:(strs (H:=Unit) (ss.drop len)).length=0:=by rw[←hx2];rfl
  simp[strs] at this;omega
 rw[List.take_of_length_le (by omega)] at hx1
 have hss:ss=L.map ofBytes:=by
  refine List.ext_getElem (by have:=congrArg List.length hx1;simpa[strs] using this.symm) fun i h1 h2=>?_
  have e4:(L.map fun l=>(DataW.lit (.string l):DataW Unit))[i]? =(strs ss)[i]?:=by rw[hx1]
  simp only[List.length_map] at h2;simp[strs,h1,h2] at e4;rw[List.getElem_map];exact ofBytes_eq e4.symm
 refine⟨a,cap,?_,?_⟩
 ·rw[hcs];have:L.length=len:=by have:=congrArg List.length hss;simp at this;omega
  rw[this]
 ·intro i hi;rw[←hss];exact hcell i (by rw[hss];exact hi)
end Go.Proofs.YtoimgcjbcbhclaaGreatDoor
set_option maxRecDepth 100000
set_option maxHeartbeats 16000000
namespace Go.Proofs.YtoimgcjbcbhclaaGreatDoor
open Go.RowKit
section
variable {P:Program} {md:Region.Mode} {ops:Array Oper} {Q:Exit→Act→World→Prop} {S:World→Prop} {fuel:Nat} {listed:Array Bool} {a:Act} {w:World}
theorem wt {oi:Oper}(i:Nat)(v:Value)
    (h:wpAny P md ops Q fuel (listed.setIfInBounds i true) (a.put oi.dst v) w) (hi:ops[i]? = some oi:=by rfl)
    (hs:Region.noSelect ops=true:=by kernel_rfl) (hf:Region.free md ops listed i=true:=by kernel_rfl) (hr:(Region.ready md ops listed).contains i=true:=by kernel_rfl)
    (hQ:∀ c a w,Q (.panic c) (a.put oi.dst v) w→Q (.panic c) a w:=by exact fun _ _ _ h=>h) (hy:Yields P ops oi v a:=by exact Or.inl ⟨by kernel_rfl,fun w=>by go_simp⟩):wpAny P md ops Q (fuel+1) listed a w:=
  wpAny_take hi hs hf hr hQ hy h
theorem wg {oi:Oper}(i:Nat)(v:Value)(hi:ops[i]? = some oi)(hy:YieldsIf P ops S oi v a)(hS:S w)
    (h:wpAnyH P md ops Q S fuel (listed.setIfInBounds i true) (a.put oi.dst v) w)
    (hs:Region.noSelect ops=true:=by kernel_rfl) (hf:Region.free md ops listed i=true:=by kernel_rfl) (hr:(Region.ready md ops listed).contains i=true:=by kernel_rfl)
    (hQ:∀ c a w,Q (.panic c) (a.put oi.dst v) w→Q (.panic c) a w:=by exact fun _ _ _ h=>h):wpAnyH P md ops Q S (fuel+1) listed a w:=
  wpAnyH_take hi hs hf hr hQ hy hS h
theorem wh {oi:Oper}(i:Nat)(v:Value)(hS:S w)
    (h:wpAnyH P md ops Q S fuel (listed.setIfInBounds i true) (a.put oi.dst v) w) (hi:ops[i]? = some oi:=by rfl)
    (hs:Region.noSelect ops=true:=by kernel_rfl) (hf:Region.free md ops listed i=true:=by kernel_rfl) (hr:(Region.ready md ops listed).contains i=true:=by kernel_rfl)
    (hQ:∀ c a w,Q (.panic c) (a.put oi.dst v) w→Q (.panic c) a w:=by exact fun _ _ _ h=>h) (hy:YieldsIf P ops S oi v a:=by exact Or.inl ⟨by kernel_rfl,fun _ _=>by go_simp⟩):wpAnyH P md ops Q S (fuel+1) listed a w:=
  wpAnyH_take hi hs hf hr hQ hy hS h
theorem wr1 {o:Oper}(i:Nat)
    (h:∀ K':Act→World→Prop,(∀ a w,wpAny P md ops Q fuel (listed.setIfInBounds i true) a w→K' a w)→if Region.wanted o (yielded ops a.tmps)=true then Oper.wp P o a w K' Q else K' (a.put o.dst undef) w)
    (ho:ops[i]? = some o:=by rfl) (hr:Region.ready md ops listed=[i]:=by kernel_rfl):wpAny P md ops Q (fuel+1) listed a w:=
  wpAny_ready hr (by simp) (AllReady.cons ho h AllReady.nil)
theorem wr2 {o o':Oper}(i j:Nat)
    (h:∀ K':Act→World→Prop,(∀ a w,wpAny P md ops Q fuel (listed.setIfInBounds i true) a w→K' a w)→if Region.wanted o (yielded ops a.tmps)=true then Oper.wp P o a w K' Q else K' (a.put o.dst undef) w)
    (h':∀ K':Act→World→Prop,(∀ a w,wpAny P md ops Q fuel (listed.setIfInBounds j true) a w→K' a w)→if Region.wanted o' (yielded ops a.tmps)=true then Oper.wp P o' a w K' Q else K' (a.put o'.dst undef) w)
    (ho:ops[i]? = some o:=by rfl) (ho':ops[j]? = some o':=by rfl) (hr:Region.ready md ops listed=[i,j]:=by kernel_rfl):wpAny P md ops Q (fuel+1) listed a w:=
  wpAny_ready hr (by simp) (AllReady.cons ho h (AllReady.cons ho' h' AllReady.nil))
theorem wq1 {o:Oper}(i:Nat)
    (h:∀ K':Act→World→Prop,Shut (∀ a w,S w→(S w→wpAnyH P md ops Q S fuel (listed.setIfInBounds i true) a w)→K' a w)→if Region.wanted o (yielded ops a.tmps)=true then Oper.wp P o a w K' Q else K' (a.put o.dst undef) w)
    (ho:ops[i]? = some o:=by rfl) (hr:Region.ready md ops listed=[i]:=by kernel_rfl):wpAnyH P md ops Q S (fuel+1) listed a w:=
  wpAnyH_ready hr (by simp) (AllReadyH.cons ho h AllReadyH.nil)
theorem via2 {H G:World→Nat→Prop}{goal:Prop}(h1:(∀ wc pc,H wc pc→G wc pc)→goal)(h2:∀ wc pc,H wc pc→G wc pc):goal:=h1 h2
theorem wpAny_same {listed':Array Bool}{a':Act}(h1:listed=listed')(h2:a=a')(h:wpAny P md ops Q fuel listed' a' w):wpAny P md ops Q fuel listed a w:=by
  subst h1 h2;exact h
def tf (n m:Nat):Array Bool:=Array.replicate n true++Array.replicate m false
theorem wz {a':Act}(n m:Nat)(h:wpAny P md ops Q fuel (tf n m) a' w)(h1:listed=tf n m:=by kernel_rfl)(h2:a=a':=by kernel_rfl):wpAny P md ops Q fuel listed a w:=wpAny_same h1 h2 h
theorem cm {f:FuncId}{args:Array Value}{R R':Ending→World→Prop}(h:Calls P f args w R)(hr:∀ e w',R e w'→R' e w'):Calls P f args w R':=h.mono hr
end
theorem bcell {W w1:World}(hb:Below W.heap.size W w1):(∀ b o,b<W.heap.size→w1.cell? ⟨b,o,none⟩=W.cell? ⟨b,o,none⟩)∧(∀ b o,b<W.heap.size→w1.frozen? ⟨b,o,none⟩=W.frozen? ⟨b,o,none⟩):=
 ⟨fun b o h=>hb.cell (p:=⟨b,o,none⟩) h,fun b o h=>hb.frozen (p:=⟨b,o,none⟩) h⟩
inductive Rd where
 | tok (kd:Int) (tx:ByteArray) (n:Int) (e:Nat)
 | bad (er:Int) (p:Nat)
abbrev noTok:Value:=.agg #[.int .i64 0,.string ⟨#[]⟩,.int .i64 0,.int .i64 0]
def RPost (k:Nat)(r:Rd)(w:World)(e:Ending)(w':World):Prop:=
 match r with
 | .tok kd tx n e'=>e=.returned (.tuple #[.agg #[.int .i64 kd,.string tx,.int .i64 n,.int .i64 (k:Int)],.int .i64 (e':Int),.nilIface])∧Below w.heap.size w w'
 | .bad er p=>∃ b,e=.returned (.tuple #[noTok,.int .i64 0,.iface 144 (.pointer (some ⟨b,0,none⟩))])∧w'.heap[b]? = some (.cells #[.int .i64 er,.int .i64 (p:Int)] 145 (0,0))∧w.heap.size≤b∧Below w.heap.size w w'
theorem bad_end {w w1:World}{b:Nat}{o X:Obj}(hbel:Below (w.alloc o).heap.size (w.alloc o) w1)(hlb:(w.alloc o).heap.size≤b)(hb:w1.heap[b]? = some X)(v0 v1 v2 v3:Value) :
  ((((w1.setCell ⟨w.heap.size,0,none⟩ v0).setCell ⟨w.heap.size,1,none⟩ v1).setCell ⟨w.heap.size,2,none⟩ v2).setCell ⟨w.heap.size,3,none⟩ v3).heap[b]? = some X∧w.heap.size≤b ∧
   Below w.heap.size w ((((w1.setCell ⟨w.heap.size,0,none⟩ v0).setCell ⟨w.heap.size,1,none⟩ v1).setCell ⟨w.heap.size,2,none⟩ v2).setCell ⟨w.heap.size,3,none⟩ v3):=by
 have hz:(w.alloc o).heap.size=w.heap.size+1:=by simp
 have hne:b≠w.heap.size:=by omega
 have b0:Below w.heap.size w (w.alloc o):=(Below.refl _ _).alloc (Nat.le_refl _) _
 have b1:Below w.heap.size w w1:=b0.trans (hbel.mono (by omega))
 refine⟨?_,by omega,(((b1.setCell (Nat.le_refl _) _).setCell (Nat.le_refl _) _).setCell (Nat.le_refl _) _).setCell (Nat.le_refl _) _⟩
 rw[Below.heap_setCell _ _ _ _ hne,Below.heap_setCell _ _ _ _ hne,Below.heap_setCell _ _ _ _ hne,Below.heap_setCell _ _ _ _ hne]
 exact hb
theorem fail_any (er p:Int)(w:World):Calls Tryz.prog 236 #[.int .i64 er,.int .i64 p] w fun e w'=>
  ∃ b,e=.returned (.tuple #[noTok,.int .i64 0,.iface 144 (.pointer (some ⟨b,0,none⟩))])∧w'.heap[b]? = some (.cells #[.int .i64 er,.int .i64 p] 145 (0,0))∧w.heap.size≤b∧Below w.heap.size w w':=by
 go_enter Tryz.func236,Tryz.ntmps236
 go_wp2
 refine bodyPost_ret (v:=.tuple #[noTok,.int .i64 0,.iface 144 (.pointer (some ⟨w.heap.size+1,0,none⟩))]) (by simp[results,Tryz.results236,go_sem]) rfl ⟨_,rfl,?_,by omega,((Below.refl _ _).alloc (Nat.le_refl _) _).alloc (by simp) _⟩
 simpa using heap_alloc_new (w.alloc (.cells #[.int .i64 0,.string ⟨#[]⟩,.int .i64 0,.int .i64 0] 138)) (.cells #[.int .i64 er,.int .i64 p] 145)
def pfxB (x p:ByteArray):Bool:=decide (p.size≤x.size)&&((x.extract 0 p.size).toList==p.toList)
theorem hasPrefix_any (x p:ByteArray)(w:World)(_hx:x.size≤maxLen)(_hp:p.size≤maxLen) :
  Calls Tryz.prog 183 #[.string x,.string p] w fun e w'=>e=.returned (.bool (pfxB x p))∧w'=w:=by
 unfold maxLen at _hx _hp
 by_cases h:p.size≤x.size
 all_goals
  go_enter Tryz.func183,Tryz.ntmps183
  go_wp2
  go_ret;exact⟨ret_bool (by simp[pfxB,h]),rfl⟩
def rdSign (gs:List ByteArray)(s:ByteArray)(k:Nat):Rd:=
 match gs.find? (fun g=>pfxB (s.extract k s.size) g) with
 | some g=>.tok 5 g 0 (k+g.size)
 | none=>.bad 3 k
section
variable {gs:List ByteArray} {f:ByteArray→Bool}
include gs f
theorem find_hit {i:Nat}(hi:i<gs.length)(h0:∀ j,(hj:j<i)→f (gs[j]'(by omega))=false)(h:f gs[i]=true):gs.find? f=some gs[i]:=by
 rw[List.find?_eq_some_iff_getElem]
 exact⟨h,i,hi,rfl,fun j hj=>by rw[h0 j hj];rfl⟩
theorem find_none (h0:∀ j,(hj:j<gs.length)→f gs[j]=false):gs.find? f=none:=by
 rw[List.find?_eq_none]
 intro x hx
 obtain⟨j,hj,rfl⟩:=List.getElem_of_mem hx
 rw[h0 j hj];simp
end
theorem extract_size (s:ByteArray)(a b:Nat)(h1:a≤b)(h2:b≤s.size):(s.extract a b).size=b - a:=by
 simp;omega
theorem readSign_any (gs:List ByteArray)(s:ByteArray)(k:Nat)(w:World)(hs:s.size≤3000)(hk:k<s.size)(hn:gs.length=19)(hsz:∀ i,i<19→(gs.getD i ByteArray.empty).size≤3)(t:TypeId)(fr:Nat × Nat)
  (hg:w.heap[5]? = some (.cells (gs.map Value.string).toArray t fr)) :
  Calls Tryz.prog 161 #[.string s,.int .i64 (k:Int)] w (RPost k (rdSign gs s k) w):=by
 obtain⟨cs,hcs⟩:∃ cs,cs=(gs.map Value.string).toArray:=⟨_,rfl⟩
 rw[←hcs] at hg
 have hsz1:cs.size=19:=by rw[hcs];simpa using hn
 have hix:∀ k:Nat,k<19→∀ W,(Instr.index 257 (.agg cs) (.int .i64 (k:Int))).run Tryz.prog W=.ok (.string (gs.getD k ByteArray.empty)) W:=fun k hk W=>
  idx53 cs k hk _ (by rw[hcs];simp[hn,hk]) W
 have HIX:=hide hix
 have Hcs:=hide hcs
 have Hsz:=hide hsz
 have Hsz1:=hide hsz1
 have Hn:=hide hn
 have Hg:Hid ((w.alloc (.cells #[.int .i64 0,.string ⟨#[]⟩,.int .i64 0,.int .i64 0] 138)).heap[5]? = some (.cells cs t fr)):=by
  have hlt:5<w.heap.size:=(Array.getElem?_eq_some_iff.1 hg).1
  show _=_
  rw[Below.heap_alloc w _ 5 hlt];exact hg
 clear hix hcs hsz hg hn hsz1
 go_enter Tryz.func161,Tryz.ntmps161
 go_wp2_with (refine wpList_load_row rfl 257 _ rfl 5 rfl t cs fr _ Hg.out Tryz.underlying257 rfl (by rw[Hsz1.out];kernel_rfl) ?_)
 go_loopw [8,10] (fun _ i wr=>∃ j:Nat,j≤19∧i=.int .i64 j∧(∀ q,q<j→pfxB (s.extract k s.size) (gs.getD q ByteArray.empty)=false)∧wr=w.alloc (.cells #[.int .i64 0,.string ⟨#[]⟩,.int .i64 0,.int .i64 0] 138)) (fun _ i _=>19 - (intOf i).toNat)
 case atStart=>exact⟨0,Nat.zero_le _,rfl,fun q hq=>absurd hq (Nat.not_lt_zero _),rfl⟩
 case round=>
  obtain⟨j,hj,rfl,he,rfl⟩:=hrel;have HE:=hide he;clear he
  by_cases hlt:j<19
  ·have hck:=unhide HIX j hlt;have hgz:=unhide Hsz j hlt;obtain⟨g,hg⟩:∃ g,g=gs.getD j ByteArray.empty:=⟨_,rfl⟩;rw[←hg] at hck hgz;have HGJ:=hide hg;clear hg
   cases hp:pfxB (s.extract k s.size) g
   ·have HP:=hide hp;clear hp;go_wp2_with fail;refine(hasPrefix_any _ _ _ (by unfold maxLen;simp;omega) (by unfold maxLen;omega)).mono ?_
    rw[HP.out];rintro e w' ⟨rfl,rfl⟩;go_wp2_with fail
    go_roundw
    case rel=>exact⟨j+1,by omega,by go_num,fun q hq=>by (by_cases hqj:q=j);(rw[hqj,←HGJ.out];exact HP.out);exact unhide HE q (by omega),by trivial⟩
    case measure=>simp[intOf];omega
   ·have HP:=hide hp;clear hp;go_wp2_with fail;refine(hasPrefix_any _ _ _ (by unfold maxLen;simp;omega) (by unfold maxLen;omega)).mono ?_
    rw[HP.out];rintro e w' ⟨rfl,rfl⟩;go_wp2_with fail;have hr:rdSign gs s k=.tok 5 g 0 (k+g.size):=by
     unfold rdSign;have hgj:g=gs[j]'(by rw[Hn.out];exact hlt):=by rw[HGJ.out,List.getD_eq_getElem?_getD,List.getElem?_eq_getElem (by rw[Hn.out];exact hlt)];rfl
     rw[find_hit (i:=j) (by rw[Hn.out];exact hlt) (fun q hq=>by
      have:=unhide HE q hq;rw[List.getD_eq_getElem?_getD,List.getElem?_eq_getElem (by rw[Hn.out];omega)] at this
      exact this) (by rw[←hgj];exact HP.out),←hgj]
    rw[hr]
    exact bodyPost_ret (v:=.tuple #[.agg #[.int .i64 5,.string g,.int .i64 0,.int .i64 (k:Int)],.int .i64 ((k:Int)+(g.size:Int)),.nilIface]) (by simp[results,Tryz.results161,go_sem]) rfl ⟨by simp,(Below.refl _ _).alloc (Nat.le_refl _) _⟩
  ·go_wp2_with fail;refine(fail_any _ _ _).mono ?_;rintro e w1 ⟨b,rfl,hb,hlb,hbel⟩;obtain⟨hc,hf⟩:=bcell hbel;have HB:=hide hb;have HBEL:=hide hbel;clear hb hbel;go_wp2_with fail
   have hr:rdSign gs s k=.bad 3 k:=by
    unfold rdSign;rw[find_none (fun q hq=>by
     have:=unhide HE q (by rw[Hn.out] at hq;omega)
     rw[List.getD_eq_getElem?_getD,List.getElem?_eq_getElem hq] at this;exact this)]
   rw[hr];exact bodyPost_ret (v:=.tuple #[noTok,.int .i64 0,.iface 144 (.pointer (some ⟨b,0,none⟩))]) (by simp[results,Tryz.results161,go_sem,hc]) rfl ⟨b,rfl,bad_end HBEL.out hlb HB.out _ _ _ _⟩
theorem pastN_ge (p:Int→Bool)(s:ByteArray)(k:Nat):k≤pastN p s k:=by unfold pastN;omega
theorem good_end {w w1:World}{o:Obj}(hbel:Below (w.alloc o).heap.size (w.alloc o) w1)(v0 v1 v2 v3:Value) :
   Below w.heap.size w ((((w1.setCell ⟨w.heap.size,0,none⟩ v0).setCell ⟨w.heap.size,1,none⟩ v1).setCell ⟨w.heap.size,2,none⟩ v2).setCell ⟨w.heap.size,3,none⟩ v3):=by
 have hz:(w.alloc o).heap.size=w.heap.size+1:=by simp
 have b0:Below w.heap.size w (w.alloc o):=(Below.refl _ _).alloc (Nat.le_refl _) _
 have b1:Below w.heap.size w w1:=b0.trans (hbel.mono (by omega))
 exact(((b1.setCell (Nat.le_refl _) _).setCell (Nat.le_refl _) _).setCell (Nat.le_refl _) _).setCell (Nat.le_refl _) _
def rdName (ws:List ByteArray)(s:ByteArray)(k:Nat):Rd:=
 if isIn ws (s.extract k (pastN lodB s k))=true then .tok 2 (s.extract k (pastN lodB s k)) 0 (pastN lodB s k)
 else if 20<pastN lodB s k - k then .bad 4 k
 else .tok 1 (s.extract k (pastN lodB s k)) 0 (pastN lodB s k)
abbrev O35:Obj:=.cells #[.int .i64 0,.string ⟨#[]⟩,.int .i64 0,.int .i64 0] 138
section
variable (ws:List ByteArray) (s:ByteArray) (k e:Nat) (w:World) (hs:s.size≤3000) (hk:k<s.size) (he:pastN lodB s k=e) (hke:k≤e) (hes:e≤s.size)
include ws s k e w hs hk he hke hes
open zrqca in
theorem readName_word (hw:isIn ws (s.extract k e)=true)(hn:ws.length=19)(t:TypeId)(fr:Nat × Nat)(hg:w.heap[6]? = some (.cells (ws.map Value.string).toArray t fr)) :
  Calls Tryz.prog 157 #[.string s,.int .i64 (k:Int)] w (RPost k (.tok 2 (s.extract k e) 0 e) w):=by
 exact zrbq
open zrqcb in
theorem readName_name (hw:isIn ws (s.extract k e)=false)(h20:¬ 20<e - k)(hn:ws.length=19)(t:TypeId)(fr:Nat × Nat)(hg:w.heap[6]? = some (.cells (ws.map Value.string).toArray t fr)) :
  Calls Tryz.prog 157 #[.string s,.int .i64 (k:Int)] w (RPost k (.tok 1 (s.extract k e) 0 e) w):=by
 exact zrbq
open zrqcc in
theorem readName_long (hw:isIn ws (s.extract k e)=false)(h20:20<e - k)(hn:ws.length=19)(t:TypeId)(fr:Nat × Nat)(hg:w.heap[6]? = some (.cells (ws.map Value.string).toArray t fr)) :
  Calls Tryz.prog 157 #[.string s,.int .i64 (k:Int)] w (RPost k (.bad 4 k) w):=by
 exact zrbq
end
theorem readName_any (ws:List ByteArray)(s:ByteArray)(k:Nat)(w:World)(hs:s.size≤3000)(hk:k<s.size)(hn:ws.length=19)(t:TypeId)(fr:Nat × Nat)
  (hg:w.heap[6]? = some (.cells (ws.map Value.string).toArray t fr)) :
  Calls Tryz.prog 157 #[.string s,.int .i64 (k:Int)] w (RPost k (rdName ws s k) w):=by
 have hke:=pastN_ge lodB s k
 have hes:=pastN_le lodB s k (by omega)
 cases hw:isIn ws (s.extract k (pastN lodB s k))
 ·by_cases h20:20<pastN lodB s k - k
  ·have hr:rdName ws s k=.bad 4 k:=by unfold rdName;rw[hw];simp[h20]
   rw[hr];exact readName_long ws s k _ w hs hk rfl hke hes hw h20 hn t fr hg
  ·have hr:rdName ws s k=.tok 1 (s.extract k (pastN lodB s k)) 0 (pastN lodB s k):=by unfold rdName;rw[hw];simp[h20]
   rw[hr];exact readName_name ws s k _ w hs hk rfl hke hes hw h20 hn t fr hg
 ·have hr:rdName ws s k=.tok 2 (s.extract k (pastN lodB s k)) 0 (pastN lodB s k):=by unfold rdName;rw[hw];simp
  rw[hr];exact readName_word ws s k _ w hs hk rfl hke hes hw hn t fr hg
def numL (l:List UInt8):Int:=l.foldl (fun n b=>n * 10+((b.toNat:Int) - 48)) 0
section
variable (l:List UInt8)
include l
theorem numL_snoc (b:UInt8):numL (l++[b])=numL l * 10+((b.toNat:Int) - 48):=by simp[numL,List.foldl_append]
theorem num_from:∀ (n:Int),0≤n→(∀ b ∈ l,digB (b.toNat:Int)=true) →
  0≤l.foldl (fun n b=>n * 10+((b.toNat:Int) - 48)) n∧l.foldl (fun n b=>n * 10+((b.toNat:Int) - 48)) n<(n+1) * 10 ^ l.length:=by
 induction l with
 | nil=>intro n h0 _;simp;omega
 | cons b l ih=>
  intro n h0 h;have hb:=h b (by simp);simp[digB,btwB] at hb;have h1:=ih (n * 10+((b.toNat:Int) - 48)) (by omega) (fun c hc=>h c (by simp[hc]));refine⟨h1.1,Int.lt_of_lt_of_le h1.2 ?_⟩
  rw[List.length_cons,Int.pow_succ,Int.mul_comm ((10:Int) ^ l.length) 10,←Int.mul_assoc];exact Int.mul_le_mul_of_nonneg_right (by omega) (Int.pow_nonneg (by omega))
theorem numL_bound (h:∀ b ∈ l,digB (b.toNat:Int)=true):0≤numL l∧numL l<10 ^ l.length:=by
 have h1:=num_from l 0 (Int.le_refl _) h
 refine⟨h1.1,?_⟩
 have h2:=h1.2
 rw[Int.zero_add,Int.one_mul] at h2
 exact h2
end
theorem digit_take (x:ByteArray)(hd:∀ i,(hi:i<x.size)→digB (x[i].toNat:Int)=true)(k:Nat):∀ b ∈ x.data.toList.take k,digB (b.toNat:Int)=true:=by
 intro b hb
 obtain⟨i,hi,rfl⟩:=List.getElem_of_mem hb
 have hi':i<x.data.toList.length:=by simp at hi;simp;omega
 have hs:i<x.size:=by
  have h4:x.data.toList.length=x.size:=by simp
  omega
 rw[List.getElem_take]
 exact hd i hs
theorem take_snoc (s:ByteArray)(k:Nat)(h:k<s.size):s.data.toList.take (k+1)=s.data.toList.take k++[s[k]]:=by
 rw[List.take_succ_eq_append_getElem (by simpa using h)];rfl
theorem conv_bytes (x:ByteArray)(w:World):∃ cap W1,(convert 9 71 (.string x)).run Tryz.prog w=.ok (.slice (some ⟨w.heap.size,0,none⟩) x.size cap) W1∧Below w.heap.size w W1 ∧
  ∀ i,(hi:i<x.size)→W1.cell? ⟨w.heap.size,i,none⟩=some (.int .u8 (x[i].toNat:Int)):=by
 refine⟨_,_,run_bytes_of_string w 9 71 5 x Tryz.underlying9 Tryz.underlying71 Tryz.underlying5,((Below.refl _ _).drew.alloc (Nat.le_refl _) _),?_⟩
 intro i hi
 have hh:=heap_alloc_new w.drew (.cells (bytesRow x (grownCap w x.size 0 5)) 5 ((bytesRow x (grownCap w x.size 0 5)).size,(bytesRow x (grownCap w x.size 0 5)).size+1))
 have hh2:(w.drew.alloc (.cells (bytesRow x (grownCap w x.size 0 5)) 5 ((bytesRow x (grownCap w x.size 0 5)).size,(bytesRow x (grownCap w x.size 0 5)).size+1))).heap[w.heap.size]? = some (.cells (bytesRow x (grownCap w x.size 0 5)) 5 ((bytesRow x (grownCap w x.size 0 5)).size,(bytesRow x (grownCap w x.size 0 5)).size+1)):=hh
 have hi2:i<x.data.size:=hi
 simp only[World.cell?,hh2]
 have h3:(bytesRow x (grownCap w x.size 0 5))[i]? = some (.int .u8 (x[i].toNat:Int)):=by
  unfold bytesRow;rw[Array.getElem?_append_left (by simpa using hi2),Array.getElem?_map,Array.getElem?_eq_getElem hi2];rfl
 simpa using h3
theorem pow10_le {n:Nat}(h:n≤10):(10:Int) ^ n≤10000000000:=by
 have:∀ m:Fin 11,(10:Int) ^ m.val≤10000000000:=by decide
 exact this ⟨n,by omega⟩
theorem iatoi_any (x:ByteArray)(w:World)(h1:1≤x.size)(h2:x.size≤10)(hd:∀ i,(hi:i<x.size)→digB (x[i].toNat:Int)=true) :
  Calls Tryz.prog 249 #[.string x] w fun e w'=>e=.returned (.tuple #[.int .i64 (numL x.data.toList),.nilIface])∧Below w.heap.size w w':=by
 obtain⟨cap,W1,hcv,hbel,hcell⟩:=conv_bytes x w
 have h0:=hd 0 h1
 simp[digB,btwB] at h0
 obtain⟨h0a,h0b⟩:=h0
 have e45:(((x[0].toNat:Nat):Int)==45)=false:=beq_eq_false_iff_ne.2 (by omega)
 have e43:(((x[0].toNat:Nat):Int)==43)=false:=beq_eq_false_iff_ne.2 (by omega)
 have HBEL:=hide hbel
 have HCELL:=hide hcell
 have HD:=hide hd
 clear hbel hcell hd
 go_enter Tryz.func249,Tryz.ntmps249
 go_wp2
 go_loop [6,8,49] (fun n _ i=>∃ k:Nat,k≤x.size∧i=.int .i64 k∧n=.int .i64 (numL (x.data.toList.take k))) (fun _ _ i=>x.size - (intOf i).toNat)
 case atStart=>exact⟨0,Nat.zero_le _,rfl,rfl⟩
 case round=>
  obtain⟨k,hk,rfl,rfl⟩:=hrel
  by_cases hlt:k<x.size
  ·have hck:=unhide HCELL k hlt;have hdk:=unhide HD k hlt;simp[digB,btwB] at hdk;obtain⟨ha,hb⟩:=hdk;have hnb:=numL_bound _ (digit_take x HD.out k)
   have hl:(x.data.toList.take k).length≤10:=by simp;omega
   have hp:=pow10_le hl;obtain⟨hn0,hn1⟩:=hnb;have hn2:numL (x.data.toList.take k)<10000000000:=by omega
   have HS:=hide (numL_snoc (x.data.toList.take k) x[k]);have HT:=hide (take_snoc x k hlt);obtain⟨N,hN⟩:∃ N,N=numL (x.data.toList.take k):=⟨_,rfl⟩;rw[←hN] at hn0 hn2 ⊢;have HN:=hide hN
   clear hN hn1 hp hl
   go_wp2
   exact⟨⟨k+1,by omega,by go_num,by rw[HT.out,HS.out,←HN.out]⟩,by simp[intOf];omega⟩
  ·have HT:Hid (x.data.toList.take k=x.data.toList):=List.take_of_length_le (by simp;omega)
   go_wp2
   go_ret2
   refine⟨?_,HBEL.out⟩;rw[HT.out];rfl
theorem atoi_any (x:ByteArray)(w:World)(h1:1≤x.size)(h2:x.size≤10)(hd:∀ i,(hi:i<x.size)→digB (x[i].toNat:Int)=true) :
  Calls Tryz.prog 182 #[.string x] w fun e w'=>e=.returned (.tuple #[.int .i64 (numL x.data.toList),.nilIface])∧Below w.heap.size w w':=by
 have HD:=hide hd
 clear hd
 go_enter Tryz.func182,Tryz.ntmps182
 go_wp2_with fail
 refine(iatoi_any x w h1 h2 HD.out).mono ?_
 rintro e w1 ⟨rfl,hb⟩
 have HB:=hide hb
 clear hb
 go_wp2_with fail
 go_ret2
 exact⟨rfl,HB.out⟩
theorem data_len (x:ByteArray):x.data.toList.length=x.size:=by simp
theorem past_in (p:Int→Bool)(s:ByteArray):∀ n k,n+k=s.size→∀ i,k≤i→i<pastN p s k→(hi:i<s.size)→p (s[i].toNat:Int)=true
 | 0,k,e,i,h1,h2,hi=>by omega
 | n+1,k,e,i,h1,h2,hi=>by
  cases hk:p ((s[k]'(by omega)).toNat:Int)
  ·rw[pastN_stop p s k (by omega) hk] at h2;omega
  ·by_cases hik:i=k
   ·subst hik;exact hk
   ·rw[←pastN_go p s k (by omega) hk] at h2;exact past_in p s n (k+1) (by omega) i (by omega) h2 hi
theorem extract_at (s:ByteArray)(a b i:Nat)(h1:b≤s.size)(hi:i<(s.extract a b).size):(s.extract a b)[i]=s[a+i]'(by simp at hi;omega):=by
 simp[ByteArray.getElem_extract]
def rdNum (s:ByteArray)(k:Nat):Rd:=
 if 10<pastN digB s k - k then .bad 3 k
 else if 1<pastN digB s k - k∧(((s.data.toList.getD k 0).toNat:Nat):Int)=48 then .bad 3 k
 else if 1000000000<numL (s.extract k (pastN digB s k)).data.toList then .bad 2 k
 else .tok 3 ⟨#[]⟩ (numL (s.extract k (pastN digB s k)).data.toList) (pastN digB s k)
section
variable (s:ByteArray) (k e:Nat) (w:World) (hs:s.size≤3000) (hk:k<s.size) (he:pastN digB s k=e) (hke:k<e) (hes:e≤s.size)
include s k e w hs hk he hke hes
theorem readNum_long (h10:10<e - k) :
  Calls Tryz.prog 159 #[.string s,.int .i64 (k:Int)] w (RPost k (.bad 3 k) w):=by
 exact zcax
theorem readNum_zero (hpos:0<(s.extract k e).size)(h10:¬ 10<e - k)(h1:1<e - k)(h48:(((s.extract k e)[0].toNat:Int)==48)=true) :
  Calls Tryz.prog 159 #[.string s,.int .i64 (k:Int)] w (RPost k (.bad 3 k) w):=by
 exact zcax
theorem readNum_big (hpos:0<(s.extract k e).size)(n:Int)(hn:numL (s.extract k e).data.toList=n)(h10:¬ 10<e - k)(h1:1<e - k)(h48:(((s.extract k e)[0].toNat:Int)==48)=false)(hb:1000000000<n) :
  Calls Tryz.prog 159 #[.string s,.int .i64 (k:Int)] w (RPost k (.bad 2 k) w):=by
 have HNN:=hide hn
 clear hn
 have HE:=hide he
 clear he
 go_enter Tryz.func159,Tryz.ntmps159
 go_wp2_with fail
 refine(digit_any _).mono ?_
 rintro e1 w1 ⟨x,rfl,hx,hbel⟩
 obtain⟨hc,hf⟩:=bcell hbel
 have HBEL:=hide hbel
 have HX:=hide hx
 clear hx hbel
 go_wp2_with fail
 have hpast:=past_any s k x digB w1 (by unfold maxLen;omega) (by omega) HX.out
 rw[HE.out] at hpast
 refine hpast.mono ?_
 clear hpast
 rintro e2 w2 ⟨rfl,rfl⟩
 go_wp2_with fail
 have hds:∀ i,(hi:i<(s.extract k e).size)→digB ((s.extract k e)[i].toNat:Int)=true:=fun i hi=>by
  exact zcbt
 have hsz:=extract_size s k e (by omega) hes
 refine(atoi_any (s.extract k e) w2 (by omega) (by omega) hds).mono ?_
 rw[HNN.out]
 rintro e3 w3 ⟨rfl,hbel3⟩
 have hbelA:=HBEL.out.trans (hbel3.mono HBEL.out.size)
 clear hc hf HBEL
 obtain⟨hc,hf⟩:=bcell hbelA
 have HBEL:=hide hbelA
 clear hbelA hbel3 hds hsz
 exact zbbq
theorem readNum_many (hpos:0<(s.extract k e).size)(n:Int)(hn:numL (s.extract k e).data.toList=n)(h10:¬ 10<e - k)(h1:1<e - k)(h48:(((s.extract k e)[0].toNat:Int)==48)=false)(hb:¬ 1000000000<n) :
  Calls Tryz.prog 159 #[.string s,.int .i64 (k:Int)] w (RPost k (.tok 3 ⟨#[]⟩ n e) w):=by
 exact zbbi
theorem readNum_one (n:Int)(hn:numL (s.extract k e).data.toList=n)(h1:¬ 1<e - k)(hb:¬ 1000000000<n) :
  Calls Tryz.prog 159 #[.string s,.int .i64 (k:Int)] w (RPost k (.tok 3 ⟨#[]⟩ n e) w):=by
 exact zbbi
end
theorem readNum_any (s:ByteArray)(k:Nat)(w:World)(hs:s.size≤3000)(hk:k<s.size)(hd:digB (s[k].toNat:Int)=true) :
  Calls Tryz.prog 159 #[.string s,.int .i64 (k:Int)] w (RPost k (rdNum s k) w):=by
 have hke:k<pastN digB s k:=by rw[←pastN_go digB s k hk hd];have:=pastN_ge digB s (k+1);omega
 have hes:=pastN_le digB s k (by omega)
 have hsz:=extract_size s k (pastN digB s k) (by omega) hes
 have hpos:0<(s.extract k (pastN digB s k)).size:=by omega
 have h0:(s.extract k (pastN digB s k))[0]=s[k]:=by rw[extract_at s k _ 0 hes hpos];rfl
 have hat:=at_eq s k hk
 by_cases h10:10<pastN digB s k - k
 ·have hr:rdNum s k=.bad 3 k:=by unfold rdNum;rw[if_pos h10]
  rw[hr];exact readNum_long s k _ w hs hk rfl hke hes h10
 ·by_cases h1:1<pastN digB s k - k
  ·by_cases h48:((s[k].toNat:Nat):Int)=48
   ·have hr:rdNum s k=.bad 3 k:=by unfold rdNum;rw[if_neg h10,if_pos ⟨h1,by rw[hat];exact h48⟩]
    rw[hr];exact readNum_zero s k _ w hs hk rfl hke hes hpos h10 h1 (by rw[h0];exact beq_iff_eq.2 h48)
   ·have h48':(((s.extract k (pastN digB s k))[0].toNat:Int)==48)=false:=by rw[h0];exact beq_eq_false_iff_ne.2 h48
    have hc:¬ (1<pastN digB s k - k∧(((s.data.toList.getD k 0).toNat:Nat):Int)=48):=fun h=>h48 (by have:=h.2;rw[hat] at this;exact this)
    by_cases hb:1000000000<numL (s.extract k (pastN digB s k)).data.toList
    ·have hr:rdNum s k=.bad 2 k:=by unfold rdNum;rw[if_neg h10,if_neg hc,if_pos hb]
     rw[hr];exact readNum_big s k _ w hs hk rfl hke hes hpos _ rfl h10 h1 h48' hb
    ·have hr:rdNum s k=.tok 3 ⟨#[]⟩ (numL (s.extract k (pastN digB s k)).data.toList) (pastN digB s k):=by unfold rdNum;rw[if_neg h10,if_neg hc,if_neg hb]
     rw[hr];exact readNum_many s k _ w hs hk rfl hke hes hpos _ rfl h10 h1 h48' hb
  ·have hc:¬ (1<pastN digB s k - k∧(((s.data.toList.getD k 0).toNat:Nat):Int)=48):=fun h=>h1 h.1;have hds:∀ b ∈ (s.extract k (pastN digB s k)).data.toList,digB (b.toNat:Int)=true:=by
    have:=digit_take (s.extract k (pastN digB s k)) (fun i hi=>by
     rw[extract_at s k _ i hes hi];exact past_in digB s (s.size - k) k (by omega) (k+i) (by omega) (by omega) (by omega)) (pastN digB s k - k)
    rw[List.take_of_length_le (by rw[data_len];omega)] at this
    exact this
   have hb1:=(numL_bound _ hds).2;have hl:(s.extract k (pastN digB s k)).data.toList.length=1:=by rw[data_len];omega
   rw[hl] at hb1;have hb:¬ 1000000000<numL (s.extract k (pastN digB s k)).data.toList:=by omega
   have hr:rdNum s k=.tok 3 ⟨#[]⟩ (numL (s.extract k (pastN digB s k)).data.toList) (pastN digB s k):=by unfold rdNum;rw[if_neg h10,if_neg hc,if_neg hb]
   rw[hr];exact readNum_one s k _ w hs hk rfl hke hes _ rfl h1 hb
def bt (s:ByteArray)(i:Nat):UInt8:=s.data.toList.getD i 0
theorem bt_eq (s:ByteArray)(i:Nat)(h:i<s.size):bt s i=s[i]:=at_eq s i h
def esc (c:UInt8):Option UInt8:=if c=110 then some 10 else if c=39∨c=92 then some c else none
inductive SR where
 | ok (said:List UInt8) (e:Nat)
 | bad (p:Nat)
def strR (s:ByteArray)(i:Nat)(said:List UInt8):SR:=
 if i<s.size then
  if bt s i=39 then .ok said (i+1)
  else if bt s i=10 then .bad i
  else if bt s i=92 then
   if i+1<s.size then
    match esc (bt s (i+1)) with
    | some m=>strR s (i+2) (said++[m])
    | none=>.bad (i+1)
   else .bad (i+1)
  else strR s (i+1) (said++[bt s i])
 else .bad s.size
termination_by s.size - i
def rdStr (s:ByteArray)(k:Nat):Rd:=
 match strR s (k+1) [] with
 | .ok said e=>if 500<said.length then .bad 4 k else .tok 4 (ofBytes said) 0 e
 | .bad p=>.bad 3 p
section
variable (s:ByteArray) (i:Nat) (said:List UInt8)
include s i said
theorem strR_end (h:¬ i<s.size):strR s i said=.bad s.size:=by rw[strR,if_neg h]
theorem strR_quote (h:i<s.size)(hc:bt s i=39):strR s i said=.ok said (i+1):=by rw[strR,if_pos h,if_pos hc]
theorem strR_lf (h:i<s.size)(hc:bt s i=10):strR s i said=.bad i:=by rw[strR,if_pos h,if_neg (by rw[hc];decide),if_pos hc]
theorem strR_esc (m:UInt8)(h:i<s.size)(hc:bt s i=92)(h1:i+1<s.size)(hm:esc (bt s (i+1))=some m):strR s i said=strR s (i+2) (said++[m]):=by
 conv=>lhs;rw[strR]
 rw[if_pos h,if_neg (by rw[hc];decide),if_neg (by rw[hc];decide),if_pos hc,if_pos h1,hm]
theorem strR_noesc (h:i<s.size)(hc:bt s i=92)(hm:i+1<s.size→esc (bt s (i+1))=none):strR s i said=.bad (i+1):=by
 rw[strR,if_pos h,if_neg (by rw[hc];decide),if_neg (by rw[hc];decide),if_pos hc]
 by_cases h1:i+1<s.size
 ·rw[if_pos h1,hm h1]
 ·rw[if_neg h1]
theorem strR_plain (h:i<s.size)(h1:bt s i≠39)(h2:bt s i≠10)(h3:bt s i≠92):strR s i said=strR s (i+1) (said++[bt s i]):=by
 conv=>lhs;rw[strR]
 rw[if_pos h,if_neg h1,if_neg h2,if_neg h3]
end
theorem byte_eq (b c:UInt8):(((b.toNat:Nat):Int)==((c.toNat:Nat):Int))=decide (b=c):=by
 by_cases h:b=c
 ·subst h;simp
 ·have:b.toNat≠c.toNat:=fun e=>h (UInt8.toNat_inj.1 e);simp[h];omega
def escV (o:Option UInt8):Value:=match o with|some m=>.tuple #[.int .u8 (m.toNat:Int),.bool true] | none=>.tuple #[.int .u8 0,.bool false]
section
variable (s:ByteArray) (i:Nat) (w:World)
include s i w
theorem escaped_out (h:s.size≤i) :
  Calls Tryz.prog 237 #[.string s,.int .i64 (i:Int)] w fun e w'=>e=.returned (.tuple #[.int .u8 0,.bool false])∧w'=w:=by
 exact zbgp
theorem escaped_in (h:i<s.size) :
  Calls Tryz.prog 237 #[.string s,.int .i64 (i:Int)] w fun e w'=>e=.returned (escV (esc (bt s i)))∧w'=w:=by
 rw[bt_eq s i h]
 obtain⟨b,hb⟩:∃ b,b=s[i]:=⟨_,rfl⟩
 have b1:=byte_eq b 110
 have b2:=byte_eq b 39
 have b3:=byte_eq b 92
 rw[←hb]
 by_cases h1:b=110
 ·have e:esc b=some 10:=by simp[esc,h1]
  have c1:(((s[i].toNat:Nat):Int)==110)=true:=by rw[←hb,h1];rfl
  rw[e];clear b1 b2 b3 hb h1;exact zbgp
 ·have c1:(((s[i].toNat:Nat):Int)==110)=false:=by rw[←hb];simpa[h1] using b1
  by_cases h2:b=39
  ·have e:esc b=some 39:=by simp[esc,h2]
   have c2:(((s[i].toNat:Nat):Int)==39)=true:=by rw[←hb,h2];rfl
   have hv:((s[i].toNat:Nat):Int)=39:=by rw[←hb,h2];rfl
   exact zbfg
  ·have c2:(((s[i].toNat:Nat):Int)==39)=false:=by rw[←hb];simpa[h2] using b2
   by_cases h3:b=92
   ·have e:esc b=some 92:=by simp[esc,h3]
    have c3:(((s[i].toNat:Nat):Int)==92)=true:=by rw[←hb,h3];rfl
    have hv:((s[i].toNat:Nat):Int)=92:=by rw[←hb,h3];rfl
    exact zbfg
   ·have e:esc b=none:=by simp[esc,h1,h2,h3]
    have c3:(((s[i].toNat:Nat):Int)==92)=false:=by rw[←hb];simpa[h3] using b3
    rw[e];clear b1 b2 b3 hb h1 h2;exact zbgp
end
def cellsOf (l:List UInt8):List Value:=l.map (fun b=>Value.int .u8 (b.toNat:Int))
theorem row_shape {w:World}{base:Nat}{v:Value}{n:Nat}{xs:List Value}(h:w.ownsRow base 5 1 v n xs):∃ a cap,v=.slice a n cap:=by
 obtain⟨_,⟨rfl,rfl⟩|⟨g,cap,cur,rfl,_⟩⟩:=h
 all_goals
  exact⟨_,_,rfl⟩
theorem row_text {w:World}{base:Nat}{v:Value}(l:List UInt8)(h:w.ownsRow base 5 1 v l.length (cellsOf l)):(convert 71 9 v).run Tryz.prog w=.ok (.string (ofBytes l)) w:=by
 obtain⟨hl,⟨rfl,h0⟩|⟨g,cap,cur,rfl,hb,hh,hn,hm,hs,ht⟩⟩:=h
 ·have:l=[]:=List.length_eq_zero_iff.1 h0;subst this;exact run_convert_bytes_nil w 71 5 Tryz.underlying71 Tryz.underlying5 0 0 9 Tryz.underlying9
 ·refine run_convert_bytes_back w 71 9 5 ⟨g,0,none⟩ cap l Tryz.underlying71 Tryz.underlying5 Tryz.underlying9 ?_;intro j hj
  have h1:(cellsOf l)[j]? = some (.int .u8 (l[j].toNat:Int)):=by unfold cellsOf;rw[List.getElem?_map,List.getElem?_eq_getElem hj];rfl
  rw[←ht,List.getElem?_take_of_lt (by omega)] at h1;have h2:cur[j]? = some (.int .u8 (l[j].toNat:Int)):=by simpa using h1
  have e:(Addr.add ⟨g,0,none⟩ j)=⟨g,j,none⟩:=by simp[Addr.add];intro h;exact h.symm
  rw[e];simp only[World.cell?,hh];simpa using h2
end Go.Proofs.YtoimgcjbcbhclaaGreatDoor
