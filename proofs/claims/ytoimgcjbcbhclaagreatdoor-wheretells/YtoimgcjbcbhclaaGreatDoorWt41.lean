/-
  WhereTells, the call: for every text the call returns true and the text reads as before: in which scope each name lies, as far as the text tells, and whether that is sure, is the document's. Conditions: the row's own (the package variables as the program's text lays them, which the card ties).
-/
import Derived.Test.YtoimgcjbcbhclaaGreatDoorCards
import Derived.Test.YtoimgcjbcbhclaaGreatDoorTie
import Derived.Test.YtoimgcjbcbhclaaGreatDoorWt40
import Derived.LaidHandle
set_option maxRecDepth 100000
set_option maxHeartbeats 8000000
namespace Go.Proofs.YtoimgcjbcbhclaaGreatDoor
open Go.ChangeShapes Go.WideShapes Go.ChangeAt Go.WideMaps Go.WideElems Go.RowKit
open Go.ChangeMaps (open_string shut_string)
namespace WtRow
abbrev laid2:=Rows.whereTellsRow.laid
theorem gFine : Tryz.prog.globalNamed "sloppyscope/sloppyref.Fine" = some 1 := by kernel_rfl
theorem tFine:(Tryz.prog.globals[1]?).map (·.type)=some 86:=by kernel_rfl
theorem signs_size:∀ i,i<19→(signsS.getD i ByteArray.empty).size≤3:=by decide +kernel
theorem cells23:Tryz.prog.cellsOf 31=1:=by kernel_rfl
theorem cells25:Tryz.prog.cellsOf 86=2:=by kernel_rfl
theorem fine_of {W : World} {fuel : Nat} {cs : Array Value} {p : List MemPlace} (hv : W.var? Tryz.prog "sloppyscope/sloppyref.Fine" = some cs)
  (h:DataW.trod (fun _=>()) Tryz.prog W 0 (fun _=>true) false fuel 86 cs.toList=some (.agg [.lit (.int .i64 0),.lit (.int .i64 (-1))],p)) :
  W.cell? ⟨1,0,none⟩=some (.int .i64 0)∧W.cell? ⟨1,1,none⟩=some (.int .i64 (-1)):=by
 have h0:=World.var?_cell gFine hv 0
 have h1:=World.var?_cell gFine hv 1
 obtain⟨y0,y1,n,hx,hl,hy0,hy1⟩:=trod_struct2 Tryz.underlying86 h
 simp only[Prod.mk.injEq,DataW.agg.injEq,List.cons.injEq,and_true] at hx
 obtain⟨⟨hx0,hx1⟩,_⟩:=hx
 rw[cells25] at hl
 obtain⟨k0,e0,f0,_⟩:=DataW.trod_int Tryz.underlying31 hy0
 obtain⟨k1,e1,f1,_⟩:=DataW.trod_int Tryz.underlying3 hy1
 rw[f0] at hx0
 rw[f1] at hx1
 have e0':List.take (Tryz.prog.cellsOf 31) (List.drop 0 cs.toList)=[.int .i64 k0]:=e0
 have e1':List.take (Tryz.prog.cellsOf 3) (List.drop 1 cs.toList)=[.int .i64 k1]:=e1
 rw[cells23] at e0'
 rw[cells3] at e1'
 clear e0 e1 hy0 hy1 h
 obtain⟨l⟩:=cs
 match l,hl,e0',e1' with
 | [c0,c1],_,e0,e1=>
  simp at e0 e1 hx0 hx1;subst e0 e1;rw[h0,h1,←hx0,←hx1];exact⟨rfl,rfl⟩
theorem words_no:∀ x ∈ wordsS,sgP 2 x=none:=by decide +kernel
structure Found (W:World):Prop where
 ls:Lists wordsS signsS W
 ts:Tabs W
 rs:RefLists wordsS W
theorem of_laid {W:World}(h:laidMetH Tryz.prog laid2 W):Found W:=by
 rw[MakeChecks.laidMetH_plain _ _ _ (by kernel_rfl)] at h
 obtain⟨ps,⟨_,_,_,_,_,_,_,_,_,_,⟨_,_,_,_,_,_,_,_,_,_,⟨_,_,_,_,_,_,_,_,_,_,⟨_,_,_,_,_,_,_,_,_,_,⟨_,_,_,_,_,_,_,_,_,_,⟨g0,t0,cs0,f0,p0,q0,hg0,ht0,hv0,hd0,⟨g1,t1,cs1,f1,p1,q1,hg1,ht1,hv1,hd1,⟨g2,t2,cs2,f2,p2,q2,hg2,ht2,hv2,hd2,⟨g3,t3,cs3,f3,p3,q3,hg3,ht3,hv3,hd3,⟨g4,t4,cs4,f4,p4,q4,hg4,ht4,hv4,hd4,⟨g5,t5,cs5,f5,p5,q5,hg5,ht5,hv5,hd5,_,_⟩,_⟩,_⟩,_⟩,_⟩,_⟩,_⟩,_⟩,_⟩,_⟩,_⟩,_⟩:=h
 obtain rfl:=Option.some.inj (gWords.symm.trans hg0)
 obtain rfl:=Option.some.inj (gSigns.symm.trans hg1)
 obtain rfl:=Option.some.inj (gFine.symm.trans hg2)
 obtain rfl:=Option.some.inj (gRefWords.symm.trans hg3)
 obtain rfl:=Option.some.inj (gTSigns.symm.trans hg4)
 obtain rfl:=Option.some.inj (gTHeads.symm.trans hg5)
 obtain rfl:=Option.some.inj (tWords.symm.trans ht0)
 obtain rfl:=Option.some.inj (tSigns.symm.trans ht1)
 obtain rfl:=Option.some.inj (tFine.symm.trans ht2)
 obtain rfl:=Option.some.inj (tRefWords.symm.trans ht3)
 obtain rfl:=Option.some.inj (tTSigns.symm.trans ht4)
 obtain rfl:=Option.some.inj (tTHeads.symm.trans ht5)
 have e0:=array_of_trod wordsL rfl hd0
 have e1:=array_of_trod signsL rfl hd1
 obtain⟨a,cap,e3,hrow⟩:=slice_of_trod wordsL hd3
 have e4:=tsigns_of hd4
 have e5:=theads_of hd5
 obtain⟨u0,fr0,hh0⟩:=heap_of_var gWords hv0
 obtain⟨u1,fr1,hh1⟩:=heap_of_var gSigns hv1
 obtain⟨u4,fr4,hh4⟩:=heap_of_var gTSigns hv4
 obtain⟨u5,fr5,hh5⟩:=heap_of_var gTHeads hv5
 have hf:=fine_of hv2 hd2
 refine⟨⟨wordsS_len,signsS_len,signs_size,⟨u0,fr0,?_⟩,⟨u1,fr1,?_⟩⟩,⟨⟨u5,fr5,?_⟩,⟨u4,fr4,?_⟩⟩,⟨wordsS_len,⟨a,cap,?_,hrow⟩,hf.1,hf.2⟩⟩
 ·rw[hh0];have:cs0=(wordsS.map Value.string).toArray:=by
   obtain⟨l⟩:=cs0;exact congrArg List.toArray e0
  rw[this]
 ·rw[hh1];have:cs1=(signsS.map Value.string).toArray:=by
   obtain⟨l⟩:=cs1;exact congrArg List.toArray e1
  rw[this]
 ·rw[hh5];have:cs5=hdCells:=by
   obtain⟨l⟩:=cs5;exact congrArg List.toArray e5
  rw[this]
 ·rw[hh4];have:cs4=sgCells:=by
   obtain⟨l⟩:=cs4;exact congrArg List.toArray e4
  rw[this]
 ·have:=World.var?_cell hg3 hv3 0;rw[Array.eq_one_of_toList e3] at this;exact this
theorem the_law (a:ByteArray)(W:World)(h:Found W):Calls Tryz.prog 7 #[.string a] W fun e w'=>e=.returned (.bool true)∧Below W.heap.size W w':=
 wt_any wordsS signsS a W h.ls h.ts h.rs rfl words_no
theorem door_met (os:Os)(args:Array Value):laidMetH Tryz.prog laid2 ((World.doorLaid Tryz.prog 121 os).forCall (fun _ _=>0) ⟨#[],args,[]⟩).memory:=
 laidMetH_of_parts3 (fuel:=8) (laidMet_of_run' 8 (by kernel_rfl) (by kernel_rfl)) (by kernel_rfl) (by kernel_rfl)
theorem lifted (os:Os)(started:os.Started)(H:Type)(enc:TypeId × Value→H) :
  ReturnsInHanded {} Tryz.checked os 7 .any (fun w args=>(Rows.whereTellsSpec.pre enc Tryz.prog Tryz.f7 [] false w args∧laidMetH Tryz.prog laid2 w)∧sizedMet enc Tryz.prog Tryz.f7 (OpenSpec.ofChange Rows.whereTellsSpec) false w args)
   (Rows.whereTellsSpec.post enc Tryz.prog Tryz.f7 false true false false):=by
 refine returnsInHanded_of_change_and (C:=Tryz.checked) (X:=fun w _=>laidMetH Tryz.prog laid2 w) (fun _ _ _ hh h=>h.of_heap hh) ownK started (by kernel_rfl) Tryz.func7
  (ChangeSpec.witness_shaped (enc:=enc) (C:=Tryz.checked) (os:=os) (X:=fun w _=>laidMetH Tryz.prog laid2 w) false (World.doorLaid Tryz.prog 121 os) #[.string ByteArray.empty] 8 rfl (World.shaped_of_RefB (by kernel_rfl) (by kernel_rfl)) (by kernel_rfl) (by kernel_rfl) (by kernel_rfl) (door_met os _)) ?_
 intro W base args ds gs before hval0 hW _ _ hL _
 have hval:∀ (j:Nat) t v,Tryz.f7.params[j]? = some t→args[j]? = some v→Value.okWide Tryz.prog W .any base t v:=hval0
 have hW':=hW
 obtain⟨p,q,hA0,hV,rfl,hfz,hnd⟩:=hW
 have hA:DataW.TrodAll enc Tryz.prog W 0 (fun _=>true) true Tryz.f7.params.toList args.toList ds p:=hA0
 rw[Tryz.params7] at hA hval
 obtain⟨v0,d0,rfl,rfl,h0⟩:=trodAll_one hA
 obtain⟨rfl,rfl⟩:=trodVars_none hV
 obtain⟨s,rfl,rfl,rfl,hs⟩:=open_string Tryz.underlying9 (hval 0 9 v0 rfl rfl) h0
 have hLs:=of_laid hL
 clear hA0 hval0
 simp only[List.append_nil] at hW'
 refine(the_law s W hLs).mono fun e W' ⟨he,bel⟩=>?_
 subst he
 exact⟨_,rfl,_,_,_,[],[],[],hW',trodAll_mk1 (shut_bool Tryz.underlying4 _),trodAll_mk1 (shut_string Tryz.underlying9 hs),rfl,bel.frame _,fun h=>by cases h⟩
end WtRow
end Go.Proofs.YtoimgcjbcbhclaaGreatDoor
