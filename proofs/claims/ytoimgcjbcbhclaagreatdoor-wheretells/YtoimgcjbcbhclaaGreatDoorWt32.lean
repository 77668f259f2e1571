/-
  The document's own parser: its block in memory; ok, fail, next, skip, must, ident.
-/
import Derived.Test.YtoimgcjbcbhclaaGreatDoorWt20
set_option maxRecDepth 100000
set_option maxHeartbeats 16000000
namespace Go.Proofs.YtoimgcjbcbhclaaGreatDoor
open Go.RowKit
structure PC where
 P:Nat
 l:List Tk
 tb:Nat
 cap:Nat
 lo:Nat
def PC.tv (c:PC):Value:=.slice (some ⟨c.tb,0,none⟩) c.l.length c.cap
abbrev pPtr (c:PC):Value:=.pointer (some ⟨c.P,0,none⟩)
structure PB (c:PC)(w:World):Prop where
 ends:Ends c.l
 tokens:∃ cur,w.heap[c.tb]? = some (.cells cur 167 (0,0))∧c.l.length≤c.cap∧c.cap≤maxLen∧cur.size=c.cap * 4∧cur.toList.take (c.l.length * 4)=tksCells c.l
 ntb:c.tb≠c.P
 len:c.l.length≤3001
 old:c.tb<c.lo∧c.P<c.lo
 size:c.lo≤w.heap.size
theorem PB.later {c:PC}{B:Nat}{w w':World}(h:PB c w)(ha:Ap c.P B w w')(hB:c.lo≤B):PB c w':=by
 obtain⟨h0,⟨cur,h1,h1'⟩,h2,h3,h4,h5⟩:=h
 exact⟨h0,⟨cur,by rw[ha.block _ (by omega) h2];exact h1,h1'⟩,h2,h3,h4,Nat.le_trans h5 ha.size⟩
def prObj (c:PC)(i:Nat)(er pl:Int):Obj:=.cells #[c.tv,.int .i64 (i:Int),.int .i64 er,.int .i64 pl] 166 (0,0)
structure Ps (c:PC)(w:World)(i:Nat)(er pl:Int):Prop where
 base:PB c w
 blk:w.heap[c.P]? = some (prObj c i er pl)
 lt:i<c.l.length
theorem Ps.later {c:PC}{w w':World}{i:Nat}{er pl:Int}(h:Ps c w i er pl)(ha:Below w.heap.size w w'):Ps c w' i er pl:=
 ⟨h.base.later (Ap.of ha) h.base.size,by rw[ha.block _ (lt_of_heap h.blk)];exact h.blk,h.lt⟩
section
variable {c:PC} {w:World} {i:Nat} {er pl:Int} (h:Ps c w i er pl)
include c w i er pl h
theorem Ps.rlt:c.P<w.heap.size:=lt_of_heap h.blk
theorem Ps.c0:w.cell? ⟨c.P,0,none⟩=some (.slice (some ⟨c.tb,0,none⟩) c.l.length c.cap):=by rw[cell_of h.blk];rfl
theorem Ps.c1:w.cell? ⟨c.P,1,none⟩=some (.int .i64 (i:Int)):=by rw[cell_of h.blk];rfl
theorem Ps.c2:w.cell? ⟨c.P,2,none⟩=some (.int .i64 er):=by rw[cell_of h.blk];rfl
theorem Ps.c3:w.cell? ⟨c.P,3,none⟩=some (.int .i64 pl):=by rw[cell_of h.blk];rfl
theorem Ps.fz (o:Nat):w.frozen? ⟨c.P,o,none⟩=false:=frozen_of h.blk o
end
section
variable {c:PC} {w:World}
include c w
theorem PB.tok (h:PB c w)(i j:Nat)(hi:i<c.l.length)(hj:j<4):w.cell? ⟨c.tb,i * 4+j,none⟩=(tkCells (tkA c.l i))[j]?:=by
 exact zbge
theorem PB.tlt (h:PB c w):c.tb<w.heap.size:=by
 obtain⟨cur,hb,_⟩:=h.tokens
 exact lt_of_heap hb
theorem Ps.toks {i:Nat}{er pl:Int}(h:Ps c w i er pl) :
  w.cell? ⟨c.tb,i * 4,none⟩=some (.int .i64 (tkA c.l i).kd)∧w.cell? ⟨c.tb,i * 4+1,none⟩=some (.string (tkA c.l i).tx)∧w.cell? ⟨c.tb,i * 4+2,none⟩=some (.int .i64 (tkA c.l i).n)∧w.cell? ⟨c.tb,i * 4+3,none⟩=some (.int .i64 ((tkA c.l i).pl:Int)):=
 ⟨h.base.tok i 0 h.lt (by decide),h.base.tok i 1 h.lt (by decide),h.base.tok i 2 h.lt (by decide),h.base.tok i 3 h.lt (by decide)⟩
theorem Ps.step {i j:Nat}{er pl:Int}(h:Ps c w i er pl)(hj:j<c.l.length):Ps c (w.setCell ⟨c.P,1,none⟩ (.int .i64 (j:Int))) j er pl:=
 ⟨h.base.later ((Ap.refl c.P c.lo w).setCell (p:=⟨c.P,1,none⟩) (Or.inr rfl) _) (Nat.le_refl _),by rw[heap_set h.blk];rfl,hj⟩
end
section
variable {c:PC} {w:World} {i:Nat} {er pl:Int} (h:Ps c w i er pl)
include c w i er pl h
theorem Ps.fault (e p:Int):Ps c ((w.setCell ⟨c.P,2,none⟩ (.int .i64 e)).setCell ⟨c.P,3,none⟩ (.int .i64 p)) i e p:=
 ⟨h.base.later (((Ap.refl c.P c.lo w).setCell (p:=⟨c.P,2,none⟩) (Or.inr rfl) _).setCell (p:=⟨c.P,3,none⟩) (Or.inr rfl) _) (Nat.le_refl _),by rw[heap_set (heap_set h.blk _)];rfl,h.lt⟩
theorem Ps.drew:Ps c w.drew i er pl:=h.later (Below.refl _ _).drew
theorem Ps.alloc (o:Obj):Ps c (w.alloc o) i er pl:=h.later ((Below.refl _ _).alloc (Nat.le_refl _) o)
end
def NPost (c:PC)(w:World)(er pl:Int)(Z:Value→Prop)(e:Ending)(w':World):Prop:=
 (∃ v,e=.returned v∧Z v)∧(∃ j,Ps c w' j er pl)∧er≠0∧Ap c.P w.heap.size w w'
def QPost {α:Type}(c:PC)(w:World)(N:World→α→Value→Prop)(Z:Value→Prop)(r:PR α)(e:Ending)(w':World):Prop:=
 match r with
 | .ok x j=>(∃ v,e=.returned v∧N w' x v)∧Ps c w' j 0 (-1)∧Ap c.P w.heap.size w w'
 | .bad er pl=>NPost c w er (pl:Int) Z e w'
 | .out=>True
abbrev ZN (v:Value):Prop:=∃ q,v=nPtr q
abbrev ZU (v:Value):Prop:=v=.tuple #[]
abbrev ZT (v:Value):Prop:=∃ s,v=.string s
abbrev ZL (v:Value):Prop:=∃ a n k,v=.slice a n k
section
variable (c:PC) (w:World) (i:Nat)
include c w i
theorem rok_any (er pl:Int)(h:Ps c w i er pl) :
  Calls Tryz.prog 110 #[pPtr c] w fun e w'=>e=.returned (.bool (er==0))∧w'=w:=by
 have c2:=h.c2
 clear h
 go_enter Tryz.func110,Tryz.ntmps110
 go_wp2_with fail
 go_ret
 exact⟨rfl,rfl⟩
theorem rfail_new (e0:Int)(he:e0≠0)(h:Ps c w i 0 (-1)) :
  Calls Tryz.prog 184 #[pPtr c,.int .i64 e0] w (NPost c w e0 ((tkA c.l i).pl:Int) ZN):=by
 have HC:=hide (rok_any c w i 0 (-1) h)
 have h0:w.cell? ⟨c.P,0,none⟩=_:=h.c0
 have h1:w.cell? ⟨c.P,1,none⟩=_:=h.c1
 have h2:w.cell? ⟨c.P,2,none⟩=_:=h.c2
 have h3:w.cell? ⟨c.P,3,none⟩=_:=h.c3
 have f2:w.frozen? ⟨c.P,2,none⟩=false:=h.fz 2
 have f3:w.frozen? ⟨c.P,3,none⟩=false:=h.fz 3
 have k3:w.cell? ⟨c.tb,i * 4+3,none⟩=_:=h.toks.2.2.2
 have hlt:(i:Int)<(c.l.length:Int):=by have:=h.lt;omega
 have hR:=h.rlt
 have HP:=hide h
 clear h
 go_enter Tryz.func184,Tryz.ntmps184
 go_wp2_with fail
 refine cm HC.out ?_
 rintro e w1 ⟨rfl,rfl⟩
 clear HC
 go_wp2_with fail
 go_region
 go_wp2_with fail
 go_ret
 refine⟨⟨_,rfl,_,rfl⟩,⟨i,(HP.out.fault e0 _).alloc _ |>.drew⟩,he,?_⟩
 exact((((Ap.refl c.P w1.heap.size w1).setCell (p:=⟨c.P,2,none⟩) (Or.inr rfl) _).setCell (p:=⟨c.P,3,none⟩) (Or.inr rfl) _).alloc (by simp) _).drew
theorem rfail_old (er pl e0:Int)(he:er≠0)(h:Ps c w i er pl) :
  Calls Tryz.prog 184 #[pPtr c,.int .i64 e0] w (NPost c w er pl ZN):=by
 have hc:=rok_any c w i er pl h
 rw[beq_eq_false_iff_ne.2 he] at hc
 have HC:=hide hc
 have HP:=hide h
 clear h hc
 go_enter Tryz.func184,Tryz.ntmps184
 exact zbdm
theorem rnext_old (er pl:Int)(he:er≠0)(s:ByteArray)(h:Ps c w i er pl) :
  Calls Tryz.prog 185 #[pPtr c,.string s] w fun e w'=>e=.returned (.bool false)∧Below w.heap.size w w':=by
 have h0:=h.c0
 have h1:=h.c1
 obtain⟨k0,k1,k2,k3⟩:=h.toks
 have hlt:(i:Int)<(c.l.length:Int):=by have:=h.lt;omega
 have hR:=h.rlt
 have hT:=h.base.tlt
 have hc:=fun o=>rok_any c (w.alloc o).drew i er pl (h.alloc o).drew
 rw[beq_eq_false_iff_ne.2 he] at hc
 have HC:=hide hc
 clear h hc
 exact zbbl
end
theorem fx_is {l:List Tk}{i:Nat}{s:ByteArray}(hs:s≠noText):fx l i=s↔((tkA l i).kd=2∨(tkA l i).kd=5)∧(tkA l i).tx=s:=by
 unfold fx
 by_cases h:(tkA l i).kd=2∨(tkA l i).kd=5
 ·rw[if_pos (by simpa using h)];exact⟨fun e=>⟨h,e⟩,fun e=>e.2⟩
 ·rw[if_neg (by simpa using h)];exact⟨fun e=>absurd e.symm hs,fun e=>absurd e.1 h⟩
section
variable (c:PC) (w:World) (i:Nat)
include c w i
theorem rnext_any (s:ByteArray)(hs:s≠noText)(h:Ps c w i 0 (-1)) :
  Calls Tryz.prog 185 #[pPtr c,.string s] w fun e w'=>e=.returned (.bool (decide (fx c.l i=s)))∧Below w.heap.size w w':=by
 have h0:=h.c0
 have h1:=h.c1
 obtain⟨k0,k1,k2,k3⟩:=h.toks
 have hlt:(i:Int)<(c.l.length:Int):=by have:=h.lt;omega
 have hR:=h.rlt
 have hT:=h.base.tlt
 have HC:=hide (fun o=>rok_any c (w.alloc o).drew i 0 (-1) (h.alloc o).drew)
 have HF:=hide (fx_is (l:=c.l) (i:=i) hs)
 clear h
 generalize tkA c.l i=t at k0 k1 k2 k3 HF
 by_cases h2:t.kd=2
 ·have b2:(t.kd==2)=true:=beq_iff_eq.2 h2
  by_cases ht:t.tx=s
  ·have bt:=tl_eq ht;have hd:decide (fx c.l i=s)=true:=decide_eq_true (HF.out.2 ⟨Or.inl h2,ht⟩);rw[hd];clear hd ht h2 HF;exact zbbl
  ·have bt:=tl_ne ht;have hd:decide (fx c.l i=s)=false:=decide_eq_false fun e=>ht (HF.out.1 e).2;rw[hd];clear hd ht h2 HF;exact zbbl
 ·have b2:(t.kd==2)=false:=beq_eq_false_iff_ne.2 h2
  by_cases h5:t.kd=5
  ·have b5:(t.kd==5)=true:=beq_iff_eq.2 h5
   by_cases ht:t.tx=s
   ·have bt:=tl_eq ht;have hd:decide (fx c.l i=s)=true:=decide_eq_true (HF.out.2 ⟨Or.inr h5,ht⟩);rw[hd];clear hd ht h2 h5 HF;exact zbbl
   ·have bt:=tl_ne ht;have hd:decide (fx c.l i=s)=false:=decide_eq_false fun e=>ht (HF.out.1 e).2;rw[hd];clear hd ht h2 h5 HF;exact zbbl
  ·have b5:(t.kd==5)=false:=beq_eq_false_iff_ne.2 h5;have hd:decide (fx c.l i=s)=false:=decide_eq_false fun e=>by have:=(HF.out.1 e).1;omega
   rw[hd];clear hd h2 h5 HF;exact zbbl
theorem rskip_old (er pl:Int)(he:er≠0)(s:ByteArray)(h:Ps c w i er pl) :
  Calls Tryz.prog 187 #[pPtr c,.string s] w fun e w'=>e=.returned (.bool false)∧Below w.heap.size w w':=by
 have HC:=hide (rnext_old c w i er pl he s h)
 clear h
 exact zbfw
theorem rskip_no (s:ByteArray)(hs:s≠noText)(hf:¬ fx c.l i=s)(h:Ps c w i 0 (-1)) :
  Calls Tryz.prog 187 #[pPtr c,.string s] w fun e w'=>e=.returned (.bool false)∧Below w.heap.size w w':=by
 have hc:=rnext_any c w i s hs h
 rw[decide_eq_false hf] at hc
 have HC:=hide hc
 clear h hc hf
 exact zbfw
theorem rskip_yes (s:ByteArray)(hs:s≠noText)(hf:fx c.l i=s)(h:Ps c w i 0 (-1)) :
  Calls Tryz.prog 187 #[pPtr c,.string s] w fun e w'=>e=.returned (.bool true)∧Ps c w' (i+1) 0 (-1)∧Ap c.P w.heap.size w w':=by
 have hc:=rnext_any c w i s hs h
 rw[decide_eq_true hf] at hc
 have hl:=fx_lt h.base.ends h.lt hf hs
 have hl3:=h.base.len
 have HC:=hide hc
 have HP:=hide h
 clear h hc hf
 go_enter Tryz.func187,Tryz.ntmps187
 go_wp2_with fail
 refine cm HC.out ?_
 rintro e w1 ⟨rfl,hb⟩
 have hp:=HP.out.later hb
 have h1:=hp.c1
 have f1:=hp.fz 1
 have HB:=hide hb
 have HP1:=hide hp
 clear HC hb hp
 go_wp2_with fail
 go_ret
 have hn:((i:Int)+1)=(((i+1:Nat)):Int):=by omega
 exact⟨rfl,by rw[hn];exact HP1.out.step hl,(Ap.of HB.out).trans ((Ap.refl c.P _ w1).setCell (p:=⟨c.P,1,none⟩) (Or.inr rfl) _)⟩
end
theorem ppU {c:PC}{w w':World}{i:Nat}(h:Ps c w' i 0 (-1))(ha:Ap c.P w.heap.size w w'):QPost c w (fun _ (_:Unit) v=>ZU v) ZU (.ok () i) (.returned (.tuple #[])) w':=⟨⟨_,rfl,rfl⟩,h,ha⟩
section
variable (c:PC) (w:World) (i:Nat)
include c w i
theorem rmust_old (er pl:Int)(he:er≠0)(s:ByteArray)(h:Ps c w i er pl) :
  Calls Tryz.prog 192 #[pPtr c,.string s] w fun e w'=>e=.returned (.tuple #[])∧w'=w:=by
 have hc:=rok_any c w i er pl h
 rw[beq_eq_false_iff_ne.2 he] at hc
 have HC:=hide hc
 clear h hc
 go_enter Tryz.func192,Tryz.ntmps192
 go_wp2_with fail
 refine cm HC.out ?_
 rintro e w1 ⟨rfl,rfl⟩
 clear HC
 go_wp2_with fail
 go_end0
 exact⟨rfl,rfl⟩
theorem rmust_any (s:ByteArray)(hs:s≠noText)(h:Ps c w i 0 (-1)) :
  Calls Tryz.prog 192 #[pPtr c,.string s] w (QPost c w (fun _ (_:Unit) v=>ZU v) ZU (mustP c.l s i)):=by
 have HC:=hide (rok_any c w i 0 (-1) h)
 by_cases hf:fx c.l i=s
 ·have hm:mustP c.l s i=.ok () (i+1):=by unfold mustP;rw[if_pos hf]
  rw[hm];have HC2:=hide (rskip_yes c w i s hs hf h);clear h hm hf;go_enter Tryz.func192,Tryz.ntmps192;go_wp2_with fail;refine cm HC.out ?_;rintro e w1 ⟨rfl,rfl⟩;clear HC;go_wp2_with fail;refine cm HC2.out ?_
  rintro e w2 ⟨rfl,hp,ha⟩;have HP:=hide hp;have HA:=hide ha;clear HC2 hp ha;go_wp2_with fail
  go_end0
  exact ppU HP.out HA.out
 ·have hm:mustP c.l s i=.bad 3 (tkA c.l i).pl:=by unfold mustP badF;rw[if_neg hf]
  rw[hm];have HC2:=hide (rskip_no c w i s hs hf h);have HP:=hide h;clear h hm hf;go_enter Tryz.func192,Tryz.ntmps192;go_wp2_with fail;refine cm HC.out ?_;rintro e w1 ⟨rfl,rfl⟩;clear HC;go_wp2_with fail
  refine cm HC2.out ?_;rintro e w2 ⟨rfl,hb⟩;have HC3:=hide (rfail_new c w2 i 3 (by decide) (HP.out.later hb));have HB:=hide hb;clear HC2 hb;go_wp2_with fail;refine cm HC3.out ?_
  rintro e w3 ⟨⟨v,rfl,q,rfl⟩,hp,he,ha⟩;have HP3:=hide hp;have HA:=hide ((Ap.of (R:=c.P) HB.out).next ha);clear HC3 hp ha;go_wp2_with fail
  go_end0
  exact⟨⟨_,rfl,rfl⟩,HP3.out,by decide,HA.out⟩
theorem rident_old (er pl:Int)(he:er≠0)(h:Ps c w i er pl) :
  Calls Tryz.prog 188 #[pPtr c] w fun e w'=>e=.returned (.string ⟨#[]⟩)∧w'=w:=by
 have hc:=rok_any c w i er pl h
 rw[beq_eq_false_iff_ne.2 he] at hc
 have HC:=hide hc
 clear h hc
 go_enter Tryz.func188,Tryz.ntmps188
 go_wp2_with fail
 refine cm HC.out ?_
 rintro e w1 ⟨rfl,rfl⟩
 clear HC
 go_wp2_with fail
 go_ret
 exact⟨rfl,rfl⟩
end
abbrev NT (_:World)(x:ByteArray)(v:Value):Prop:=v=.string x
theorem rident_any (c:PC)(w:World)(i:Nat)(h:Ps c w i 0 (-1)) :
  Calls Tryz.prog 188 #[pPtr c] w (QPost c w NT ZT (nameP c.l i)):=by
 have HC:=hide (rok_any c w i 0 (-1) h)
 have h0:=h.c0
 have h1:=h.c1
 have f1:=h.fz 1
 obtain⟨k0,k1,k2,k3⟩:=h.toks
 have hlt:(i:Int)<(c.l.length:Int):=by have:=h.lt;omega
 have hl3:=h.base.len
 have hR:=h.rlt
 have hT:=h.base.tlt
 have HP:=hide h
 have hne:=h.base.ntb
 by_cases hk:(tkA c.l i).kd=1
 ·have hm:nameP c.l i=.ok (tkA c.l i).tx (i+1):=by unfold nameP;rw[if_pos hk]
  rw[hm];have hl:i+1<c.l.length:=next_lt h.base.ends h.lt (by rw[hk];decide)
  rw[hk] at k0;clear h hm hk
  generalize tkA c.l i=t at k0 k1 k2 k3
  go_enter Tryz.func188,Tryz.ntmps188;go_wp2_with fail;refine cm HC.out ?_;rintro e w1 ⟨rfl,rfl⟩;clear HC;go_wp2_with fail
  go_region
  go_wp2_with fail;have m1:(w1.setCell ⟨c.P,1,none⟩ (.int .i64 ((i:Int)+1))).cell? ⟨c.tb,i * 4+1,none⟩=some (.string t.tx):=by
   rw[World.cell?_of_block (w:=w1) (Below.heap_setCell w1 ⟨c.P,1,none⟩ _ c.tb hne)];exact k1
  go_region
  go_wp2_with fail;go_ret;have hn:((i:Int)+1)=(((i+1:Nat)):Int):=by omega
  refine⟨⟨_,rfl,rfl⟩,?_,?_⟩
  ·rw[hn];exact(HP.out.step hl).drew.drew
  ·exact(((Ap.refl c.P _ w1).setCell (p:=⟨c.P,1,none⟩) (Or.inr rfl) _).drew).drew
 ·have hm:nameP c.l i=.bad 3 (tkA c.l i).pl:=by unfold nameP badF;rw[if_neg hk]
  rw[hm];have b1:((tkA c.l i).kd != 1)=true:=by rw[bne_iff_ne];exact hk
  have HC3:=hide (rfail_new c w.drew i 3 (by decide) h.drew);clear h hm hk;go_enter Tryz.func188,Tryz.ntmps188;go_wp2_with fail;refine cm HC.out ?_;rintro e w1 ⟨rfl,rfl⟩;clear HC;go_wp2_with fail
  go_region
  go_wp2_with fail;refine cm HC3.out ?_;rintro e w3 ⟨⟨v,rfl,q,rfl⟩,hp,he,ha⟩;have HP3:=hide hp;have HA:=hide (Ap.next (Ap.refl c.P w1.heap.size w1).drew ha);clear HC3 hp ha;go_wp2_with fail;go_ret
  exact⟨⟨_,rfl,_,rfl⟩,HP3.out,by decide,HA.out⟩
end Go.Proofs.YtoimgcjbcbhclaaGreatDoor
namespace Go.Proofs.YtoimgcjbcbhclaaGreatDoor
abbrev tPM:ByteArray:=⟨#[43,45]⟩
def lvls:List ByteArray:=[tOr,tAnd,tSame,tLess,tPM,tMul]
def fitsB (s x:ByteArray):Bool:=decide (x=s)||(decide (s=tPM)&&(decide (x=tAdd)||decide (x=tSub)))
def ops:List (ByteArray × Int):=[(tOr,25),(tAnd,26),(tSame,27),(tLess,28),(tAdd,29),(tSub,30),(tMul,31)]
def opK (x:ByteArray):Int:=(look2 ops x).getD 0
def lits:List (ByteArray × Int):=[(tTrue,19),(tFalse,20),(tNull,21),(tUndef,22)]
def litK (x:ByteArray):Int:=(look2 lits x).getD 0
section
variable (l:List Tk)
def rlistLoop (shut:ByteArray)(part:Nat→PR Tr):Nat→List Tr→Nat→PR (List Tr)
 | 0,_,_=>.out
 | k+1,acc,i=>if fx l i=shut then .ok acc (i+1) else
  (if acc.length=0 then PR.ok () i else mustP l tComma i).bind fun _ i1=>
   if acc.length=8 then badF l 4 i1 else (part i1).bind fun t i2=>rlistLoop shut part k (acc++[t]) i2
def rparamsP (F:Fns)(i:Nat):PR Tr:=
 (mustP l tOpen i).bind fun _ i1=>(rlistLoop l tShut (paramP l) F.fuel [] i1).bind fun ts i2=>.ok (.mk 40 noText 0 ts) i2
def robjectP (F:Fns)(d i:Nat):PR Tr:=
 (mustP l tLBrace i).bind fun _ i1=>(rlistLoop l tRBrace (propP l F d) F.fuel [] i1).bind fun ts i2=>.ok (.mk 38 noText 0 ts) i2
def rfuncTail (F:Fns)(kd:Int)(s:ByteArray)(d i:Nat):PR Tr:=
 (rparamsP l F i).bind fun ps i1=>(blockP l F d i1).bind fun b i2=>.ok (.mk kd s 0 [ps,codeT b]) i2
def rlambdaP (F:Fns)(d i:Nat):PR Tr:=
 (mustP l tFunction i).bind fun _ i1=>if isName l i1=true then (nameP l i1).bind fun s i2=>rfuncTail l F 37 s d i2 else rfuncTail l F 37 noText d i1
def rfuncP (F:Fns)(d i:Nat):PR Tr:=
 (mustP l tFunction i).bind fun _ i1=>(nameP l i1).bind fun s i2=>rfuncTail l F 5 s d i2
def raloneP (F:Fns)(d i:Nat):PR Tr:=
 if (tkA l i).kd=1 then .ok (.mk 23 (tkA l i).tx 0 []) (i+1)
 else if (tkA l i).kd=3 then .ok (.mk 17 noText (tkA l i).n []) (i+1)
 else if (tkA l i).kd=4 then .ok (.mk 18 (tkA l i).tx 0 []) (i+1)
 else if fx l i=tOpen then inParP l F d i
 else if fx l i=tFunction then rlambdaP l F d i
 else if fx l i=tLBrace then robjectP l F d i
 else if (tkA l i).kd=2∧0<litK (tkA l i).tx then .ok (.mk (litK (tkA l i).tx) noText 0 []) (i+1)
 else badF l 3 i
def rargsP (F:Fns)(d i:Nat):PR (List Tr):=rlistLoop l tShut (argP l F d) F.fuel [] i
def raskedLoop (F:Fns)(d:Nat):Nat→Tr→Nat→PR Tr
 | 0,_,_=>.out
 | k+1,t,i=>
  if fx l i=tDot then (nameP l (i+1)).bind fun s i1=>raskedLoop F d k (.mk 36 s 0 [t]) i1
  else if fx l i=tOpen then (rargsP l F d (i+1)).bind fun ts i1=>raskedLoop F d k (.mk 35 noText 0 (t::ts)) i1
  else .ok t i
def raskedP (F:Fns)(d i:Nat):PR Tr:=(raloneP l F d i).bind fun t i1=>raskedLoop l F d F.fuel t i1
def rsingleP (F:Fns)(d i:Nat):PR Tr:=
 match sgP 1 (fx l i) with
 | some s=>(deepP l F.sg d (i+1)).bind fun t i1=>.ok (.mk s.kd noText 0 [t]) i1
 | none=>raskedP l F d i
def rpairLoop (sub:Nat→PR Tr)(s:ByteArray):Nat→Tr→Nat→PR Tr
 | 0,_,_=>.out
 | k+1,t,i=>
  if (tkA l i).kd=5∧fitsB s (tkA l i).tx=true then (sub (i+1)).bind fun u i1=>rpairLoop sub s k (.mk (opK (tkA l i).tx) noText 0 [t,u]) i1
  else .ok t i
def rpairs (F:Fns)(d:Nat):List ByteArray→Nat→PR Tr
 | [],i=>F.sg d i
 | s::rest,i=>(rpairs F d rest i).bind fun t i1=>rpairLoop l (rpairs F d rest) s F.fuel t i1
def rpr (F:Fns)(least:Int)(d i:Nat):PR Tr:=rpairs l F d (lvls.drop (least - 2).toNat) i
def rpartP (F:Fns)(d:Nat):Nat→Nat→PR Tr
 | 0=>declP l F d
 | 1=>rfuncP l F d
 | 2=>blockP l F d
 | 3=>fun i=>(mustP l tSemi i).bind fun _ i1=>.ok (.mk 16 noText 0 []) i1
 | 4=>choiceP l F d
 | 5=>behindP l F d
 | 6=>givingP l F d
 | _=>attemptP l F d
def rstatementP (F:Fns)(d i:Nat):PR Tr:=
 match look2 stKeys (fx l i) with
 | some q=>rpartP l F d q i
 | none=>exprP l F d i
def rfns:Nat→Fns
 | 0=>noFns
 | k+1=>⟨k,rstatementP l (rfns k),valueP l (rfns k),rpr l (rfns k),rsingleP l (rfns k)⟩
end
section
variable {l:List Tk} (hE:Ends l)
include hE
theorem rlistLoop_nx {q:Prop}{shut:ByteArray}{part:Nat→PR Tr}{I:Nat}(hs:shut≠noText)(hp:∀ i,I≤i→i<l.length→Nx q l.length (i+1) (part i)) :
  ∀ k acc i,I≤i→i<l.length→Nx (q∧l.length - i<k) l.length (i+1) (rlistLoop l shut part k acc i):=by
 intro k
 induction k with
 | zero=>intro acc i _ _;exact⟨fun h=>absurd h.2 (by omega),fun _ _ h=>by (cases h)⟩
 | succ k ih=>
  intro acc i hI hi;unfold rlistLoop
  split
  ·exact Nx.ok (by omega) (fx_lt hE hi ‹_› hs)
  ·have h0:Nx (q∧l.length - i<k+1) l.length i (if acc.length=0 then PR.ok () i else mustP l tComma i):=by
    split
    ·exact Nx.ok (Nat.le_refl _) hi
    ·exact(mustP_nx hE hi (by decide)).le (by omega)
   refine Nx.bind h0 fun _ j h1 h2=>?_
   split
   ·exact Nx.badF
   ·refine Nx.bind ((hp j (by omega) h2).imp And.left) fun t j2 h3 h4=>?_;exact((ih _ j2 (by omega) h4).le (by omega)).imp fun h=>⟨h.1,by omega⟩
variable {k:Nat} {F:Fns} (hF:FNx l k F)
include hF
theorem rparamsP_nx {q:Prop}{i:Nat}(hi:i<l.length)(hq:q→8 * (l.length - i)≤k+4):Nx q l.length (i+1) (rparamsP l F i):=by
 unfold rparamsP
 refine Nx.bind (mustP_nx hE hi (by decide)) fun _ j h1 h2=>?_
 refine Nx.bind (((rlistLoop_nx hE (q:=q) (I:=j) (by decide) (fun j2 _ h=>paramP_nx hE h) F.fuel [] j (Nat.le_refl _) h2).imp fun h=>⟨h,?_⟩)) fun ts j2 h3 h4=>Nx.ok (by omega) h4
 have:=hq h
 rw[hF.fuel];omega
theorem robjectP_nx {q:Prop}{d i:Nat}(hi:i<l.length)(hq:q→8 * (l.length - i)≤k+4):Nx q l.length (i+1) (robjectP l F d i):=by
 unfold robjectP
 refine Nx.bind (mustP_nx hE hi (by decide)) fun _ j h1 h2=>?_
 refine Nx.bind (((rlistLoop_nx hE (q:=q) (I:=j) (by decide) (fun j2 hj h=>propP_nx hE hF h fun hh=>by have:=hq hh;omega) F.fuel [] j (Nat.le_refl _) h2).imp fun h=>⟨h,?_⟩)) fun ts j2 h3 h4=>Nx.ok (by omega) h4
 have:=hq h
 rw[hF.fuel];omega
theorem rfuncTail_nx {q:Prop}{kd:Int}{s:ByteArray}{d i:Nat}(hi:i<l.length)(hq:q→8 * (l.length - i)≤k+4):Nx q l.length (i+1) (rfuncTail l F kd s d i):=by
 unfold rfuncTail
 refine Nx.bind (rparamsP_nx hE hF hi hq) fun ps j h1 h2=>?_
 exact Nx.bind (blockP_nx hE hF h2 fun h=>by have:=hq h;omega) fun b j2 h3 h4=>Nx.ok (by omega) h4
section
variable {q:Prop} {d i:Nat} (hi:i<l.length) (hq:q→8 * (l.length - i)≤k+4)
include q d i hi hq
theorem rlambdaP_nx:Nx q l.length (i+1) (rlambdaP l F d i):=by
 unfold rlambdaP
 refine Nx.bind (mustP_nx hE hi (by decide)) fun _ j h1 h2=>?_
 split
 ·exact zbha
 ·exact(rfuncTail_nx hE hF h2 fun h=>by have:=hq h;omega).le (by omega)
theorem rfuncP_nx:Nx q l.length (i+1) (rfuncP l F d i):=by
 unfold rfuncP
 refine Nx.bind (mustP_nx hE hi (by decide)) fun _ j h1 h2=>?_
 exact zbha
theorem raloneP_nx:Nx q l.length (i+1) (raloneP l F d i):=by
 unfold raloneP
 split
 ·exact zbdu
 ·split
  ·exact zbdu
  ·split
   ·exact zbdu
   ·split
    ·exact inParP_nx hE hF hi hq
    ·split
     ·exact rlambdaP_nx hE hF hi hq
     ·split
      ·exact robjectP_nx hE hF hi hq
      ·split
       ·rename_i h;exact Nx.ok (Nat.le_refl _) (next_lt hE hi (by rw[h.1];decide))
       ·exact Nx.badF
end
theorem raskedLoop_nx {q:Prop}{I:Nat}(hq:q→8 * (l.length - I)≤k+4):∀ n d t i,I<i→i<l.length→Nx (q∧l.length - i<n) l.length i (raskedLoop l F d n t i):=by
 intro n
 induction n with
 | zero=>intro d acc i _ _;exact⟨fun h=>absurd h.2 (by omega),fun _ _ h=>by (cases h)⟩
 | succ n ih=>
  intro d t i hI hi;unfold raskedLoop
  split
  ·exact zbgb
  ·split
   ·have h0:=fx_lt hE hi ‹_› (by decide);unfold rargsP
    refine Nx.bind ((rlistLoop_nx hE (q:=q∧l.length - i<n+1) (I:=i+1) (by decide) (fun j2 hj h=>argP_nx hF h fun hh=>by have:=hq hh.1;omega) F.fuel [] (i+1) (Nat.le_refl _) h0).imp fun h=>⟨h,?_⟩) fun ts j h1 h2=>((ih d _ j (by omega) h2).le (by omega)).imp fun h=>⟨h.1,by omega⟩
    have:=hq h.1;rw[hF.fuel];omega
   ·exact Nx.ok (Nat.le_refl _) hi
theorem raskedP_nx {q:Prop}{d i:Nat}(hi:i<l.length)(hq:q→8 * (l.length - i)≤k+4):Nx q l.length (i+1) (raskedP l F d i):=by
 unfold raskedP
 refine Nx.bind (raloneP_nx hE hF hi hq) fun t j h1 h2=>((raskedLoop_nx hE hF hq F.fuel d t j (by omega) h2).le (by omega)).imp fun h=>⟨h,?_⟩
 have:=hq h
 rw[hF.fuel];omega
theorem rsingleP_nx {d i:Nat}(hi:i<l.length):Nx (8 * (l.length - i)<k+1) l.length (i+1) (rsingleP l F d i):=by
 unfold rsingleP
 split
 ·exact zbgq
 ·exact raskedP_nx hE hF hi fun h=>by omega
omit hF in
theorem rpairLoop_nx {q:Prop}{I:Nat}{sub:Nat→PR Tr}{s:ByteArray}(hp:∀ i,I<i→i<l.length→Nx q l.length (i+1) (sub i)):∀ n t i,I<i→i<l.length→Nx (q∧l.length - i<n) l.length i (rpairLoop l sub s n t i):=by
 intro n
 induction n with
 | zero=>intro acc i _ _;exact⟨fun h=>absurd h.2 (by omega),fun _ _ h=>by (cases h)⟩
 | succ n ih=>
  intro t i hI hi;unfold rpairLoop
  split
  ·rename_i h
   have h0:=next_lt hE hi (by rw[h.1];decide)
   exact Nx.bind ((hp _ (by omega) h0).imp And.left) fun u j h1 h2=>((ih _ j (by omega) h2).le (by omega)).imp fun h=>⟨h.1,by omega⟩
  ·exact Nx.ok (Nat.le_refl _) hi
theorem rpairs_nx {d:Nat}:∀ (ls:List ByteArray) (i:Nat),i<l.length→Nx (8 * (l.length - i)+1<k+1) l.length (i+1) (rpairs l F d ls i)
 | [],i,hi=>by
  unfold rpairs;exact(hF.sg _ _ hi).imp fun h=>by omega
 | s::rest,i,hi=>by
  unfold rpairs;refine Nx.bind (rpairs_nx rest i hi) fun t j h1 h2=>?_
  refine((rpairLoop_nx hE (q:=8 * (l.length - i)+1<k+1) (I:=i) (fun i2 h3 h4=>(rpairs_nx rest i2 h4).imp fun h=>by omega) F.fuel t j (by omega) h2).le (by omega)).imp fun h=>⟨h,?_⟩;rw[hF.fuel];omega
theorem rpartP_nx {q:Prop}{d i c:Nat}(hi:i+1<l.length)(hq:q→8 * (l.length - i)≤k+4):Nx q l.length (i+1) (rpartP l F d c i):=by
 unfold rpartP
 split
 ·exact declP_nx hE hF hi hq
 ·exact rfuncP_nx hE hF (by omega) hq
 ·exact blockP_nx hE hF (by omega) hq
 ·exact Nx.bind (mustP_nx hE (by omega) (by decide)) fun _ j h1 h2=>Nx.ok h1 h2
 ·exact choiceP_nx hE hF hi hq
 ·exact behindP_nx hE hF hi hq
 ·exact givingP_nx hE hF hi hq
 ·exact attemptP_nx hE hF (by omega) hq
theorem rstatementP_nx {d i:Nat}(hi:i<l.length):Nx (8 * (l.length - i)+3<k+1) l.length (i+1) (rstatementP l F d i):=by
 unfold rstatementP
 split
 ·rename_i c hc
  exact rpartP_nx hE hF (look2_lt hE hi hc (by decide)) fun h=>by omega
 ·exact exprP_nx hE hF hi fun h=>by omega
omit hF in
theorem rfns_nx:∀ k,FNx l k (rfns l k):=by
 intro k
 induction k with
 | zero=>exact⟨rfl,fun _ _ _=>⟨fun h=>absurd h (by omega),fun _ _ h=>by (cases h)⟩,fun _ _ _=>⟨fun h=>absurd h (by omega),fun _ _ h=>by (cases h)⟩,fun _ _ _ _=>⟨fun h=>absurd h (by omega),fun _ _ h=>by (cases h)⟩,fun _ _ _=>⟨fun h=>absurd h (by omega),fun _ _ h=>by (cases h)⟩⟩
 | succ k ih=>exact⟨rfl,fun _ _ hi=>rstatementP_nx hE ih hi,fun _ _ hi=>valueP_nx hE ih hi,fun _ _ _ hi=>rpairs_nx hE ih _ _ hi,fun _ _ hi=>rsingleP_nx hE ih hi⟩
end
end Go.Proofs.YtoimgcjbcbhclaaGreatDoor
namespace Go.Proofs.YtoimgcjbcbhclaaGreatDoor
open Go.RowKit
theorem Ps.ap {c:PC}{B:Nat}{w w':World}{i:Nat}{er pl:Int}(h:Ps c w i er pl)(ha:Below B w w')(hB:c.lo≤B):Ps c w' i er pl:=
 ⟨h.base.later (Ap.of ha) hB,by rw[ha.block _ (by have:=h.base.old;omega)];exact h.blk,h.lt⟩
theorem nats_two {R B:Nat}{w w':World}{t u:Tr}{p q:Nat}(h:NV B w t (nPtr p))(ha:Ap R w.heap.size w w')(hR:R<B)(hB:B≤w.heap.size)(h2:NAt (From w.heap.size) w' u q):NAts (fun b=>B≤b) w' [t,u] [p,q]:=by
 obtain⟨p',e,hp⟩:=h
 have e1:p=p':=by simpa[nPtr] using e
 subst e1
 exact NAts.pair (I:=fun b=>B≤b) (M:=w.heap.size) (NAt.later (I:=fun b=>B≤b∧b<w.heap.size) (Stay.of_ap ha hR fun _ h=>h.1) _ _ (NAt.mono (fun _ hb hl=>⟨hb,hl⟩) _ _ hp)) (NAt.mono (fun _ hb _=>⟨Nat.le_trans hB hb,hb⟩) _ _ h2)
theorem nats_front {R B:Nat}{X:Nat→Prop}{w w':World}{t:Tr}{p:Nat}{ts:List Tr}{ps:List Nat}(h:NV B w t (nPtr p))(ha:Ap R w.heap.size w w')(hR:R<B)(hB:B≤w.heap.size)(h2:NAts (fun b=>w.heap.size≤b∧X b) w' ts ps):NAts (fun b=>B≤b) w' ([t]++ts) ([p]++ps):=by
 obtain⟨p',e,hp⟩:=h
 have e1:p=p':=by simpa[nPtr] using e
 subst e1
 exact NAts.append (I:=fun b=>B≤b) (M:=w.heap.size) _ _ (NAts.mono (fun _ hb _=>⟨Nat.le_trans hB hb.1,hb.1⟩) _ _ h2) (NAts.cons (NAt.later (I:=fun b=>B≤b∧b<w.heap.size) (Stay.of_ap ha hR fun _ h=>h.1) _ _ (NAt.mono (fun _ hb hl=>⟨hb,hl⟩) _ _ hp)) NAts.nil)
theorem apart_at {R B:Nat}{w w1:World}{ts:List Tr}{v:Value}{t:Tr}{p:Nat}(hk:KV B w ts v)(hB:B≤w.heap.size)(ha:Ap R w.heap.size w w1)(hR:R<B)(hn:NAt (From w.heap.size) w1 t p) :
  ∃ ps,w1.ownsRow B 22 1 v ps.length (ps.map nPtr)∧NAts (fun b=>B≤b∧v.ownBlock≠some b) w1 ts ps∧NAts (fun b=>B≤b∧v.ownBlock≠some b) w1 (ts++[t]) (ps++[p]):=by
 have hown:=hk.own
 obtain⟨ps,hr,hs⟩:=hk
 have h1:=NAts.later (I:=fun b=>(B≤b∧v.ownBlock≠some b)∧b<w.heap.size) (Stay.of_ap ha hR fun _ h=>h.1.1) _ _ (NAts.mono (fun b hb hl=>⟨hb,hl⟩) _ _ hs)
 exact zbdv
section
variable {B:Nat} {w:World} {ts:List Tr}
include B w ts
theorem nv_row {ps:List Nat}(h:NAts (fun b=>B≤b) w ts ps)(hB:B≤w.heap.size)(hl:ps.length≤maxLen)(cs:Array Value)(hc:cs.toList=ps.map nPtr)(n:Nat)(hn:n=ps.length)(kd:Int)(tx:ByteArray)(z:Int)(q:Nat)(hq:q=w.heap.size+1) :
  EV B ((w.alloc (.cells cs 22)).alloc (nodeObj kd tx z (.slice (some ⟨w.heap.size,0,none⟩) n n))) (.mk kd tx z ts) (nPtr q):=by
 subst hn hq
 have:=EV.new (KV.row h hB hl cs hc) (by simp;omega) kd tx z
 simpa using this
theorem nv_kv {v:Value}(h:KV B w ts v)(hB:B≤w.heap.size)(kd:Int)(tx:ByteArray)(z:Int):EV B (w.alloc (nodeObj kd tx z v)) (.mk kd tx z ts) (nPtr w.heap.size):=EV.new h hB kd tx z
end
section
variable (c:PC) (w:World) (i:Nat) (er pl D:Int) (he:er≠0) (h:Ps c w i er pl)
include c w i er pl D he h
theorem rvalue_old :
  Calls Tryz.prog 193 #[pPtr c,.int .i64 D] w (NPost c w er pl ZN):=by
 have hc:=rok_any c w i er pl h
 rw[beq_eq_false_iff_ne.2 he] at hc
 have HC:=hide hc
 have HP:=hide h
 clear h hc
 go_enter Tryz.func193,Tryz.ntmps193
 exact zbdm
theorem rstatement2_old :
  Calls Tryz.prog 191 #[pPtr c,.int .i64 D] w (NPost c w er pl ZN):=by
 have hc:=rok_any c w i er pl h
 rw[beq_eq_false_iff_ne.2 he] at hc
 have HC:=hide hc
 have HP:=hide h
 clear h hc
 go_enter Tryz.func191,Tryz.ntmps191
 exact zbdm
end
def lvCells:Array Value:=(lvls.map Value.string).toArray
structure RCt (c:PC)(F:Fns):Prop where
 st:∀ w d i r,d≤30→r=deepP c.l F.st d i→r≠.out→Ps c w i 0 (-1)→Calls Tryz.prog 111 #[pPtr c,.int .i64 ((d:Int)+1)] w (QPost c w (NV w.heap.size) ZN r)
 vl:∀ w d i r,d≤30→r=deepP c.l F.vl d i→r≠.out→Ps c w i 0 (-1)→Calls Tryz.prog 193 #[pPtr c,.int .i64 ((d:Int)+1)] w (QPost c w (NV w.heap.size) ZN r)
 pr:∀ w d i r g,d≤30→r=F.pr 2 d i→r≠.out→Ps c w i 0 (-1)→w.heap[g]? = some (.cells lvCells 9 (0,0))→g≠c.P→Calls Tryz.prog 254 #[pPtr c,.int .i64 (d:Int),.slice (some ⟨g,0,none⟩) 6 6] w (QPost c w (NV w.heap.size) ZN r)
 sg:∀ w d i r,d≤30→r=F.sg d i→r≠.out→Ps c w i 0 (-1)→Calls Tryz.prog 288 #[pPtr c,.int .i64 (d:Int)] w (QPost c w (NV w.heap.size) ZN r)
theorem npost_trans {c:PC}{w w1:World}{er pl:Int}{Z:Value→Prop}{e:Ending}{w':World}(ha:Ap c.P w.heap.size w w1)(h:NPost c w1 er pl Z e w'):NPost c w er pl Z e w':=⟨h.1,h.2.1,h.2.2.1,ha.next h.2.2.2⟩
section
variable {c:PC} {F:Fns} (hF:RCt c F) (w:World) (d i:Nat) (r:PR Tr) (hd:d≤30)
include c F hF w d i r hd
theorem rstatement2_any (hs:r=deepP c.l F.st d i)(ho:r≠.out)(h:Ps c w i 0 (-1)) :
  Calls Tryz.prog 191 #[pPtr c,.int .i64 (d:Int)] w (QPost c w (NV w.heap.size) ZN r):=by
 have HC:=hide (rok_any c w i 0 (-1) h)
 have HC2:=hide (hF.st w d i r hd hs ho h)
 have HO:=hide ho
 clear h hs ho hF
 go_enter Tryz.func191,Tryz.ntmps191
 go_wp2_with fail
 refine cm HC.out ?_
 rintro e w1 ⟨rfl,rfl⟩
 clear HC
 go_wp2_with fail
 refine cm HC2.out ?_
 intro e w2 hp
 cases r with
 | out=>exact absurd rfl HO.out
 | ok t j=>
  obtain⟨⟨v,rfl,hv⟩,hp2,ha⟩:=hp;obtain⟨q,rfl,hn⟩:=hv;have H1:=hide hn;have H2:=hide hp2;have H3:=hide ha;clear hn hp2 ha HC2;exact zccg
 | bad er pl=>
  obtain⟨⟨v,rfl,q,rfl⟩,hp2,he,ha⟩:=hp;have H2:=hide hp2;have H3:=hide ha;clear hp2 ha HC2;exact zcci
theorem rhead_any (hs:r=inParP c.l F d i)(ho:r≠.out)(h:Ps c w i 0 (-1)) :
  Calls Tryz.prog 190 #[pPtr c,.int .i64 (d:Int)] w (QPost c w (NV w.heap.size) ZN r):=by
 unfold inParP at hs
 have HC:=hide (rmust_any c w i tOpen (by decide) h)
 have HLT:=hide h.rlt
 have HS:=hide hs
 have HO:=hide ho
 have HF:=hide hF
 clear h hs ho hF
 go_enter Tryz.func190,Tryz.ntmps190
 go_wp2_with fail
 refine cm HC.out ?_
 intro e w1 hp
 cases hr:mustP c.l tOpen i with
 | out=>rw[hr] at HS;exact absurd HS.out HO.out
 | bad er pl=>
  rw[hr] at hp HS;have hq:r=.bad er pl:=unhide HS;subst hq;obtain⟨⟨v,rfl,rfl⟩,⟨j,hp2⟩,he,ha⟩:=hp;have HA:=hide ha;have HC2:=hide (rvalue_old c w1 j er pl ((d:Int)+1) he hp2);clear hr HC hp2 ha
  go_wp2_with fail;refine cm HC2.out ?_;rintro e w2 ⟨⟨v,rfl,q,rfl⟩,⟨j2,hp3⟩,_,ha2⟩;exact zbeh
 | ok x1 j1=>
  rw[hr] at hp HS;have hq:r=(deepP c.l F.vl d j1).bind fun t i2=>(mustP c.l tShut i2).bind fun _ i3=>.ok t i3:=unhide HS;obtain⟨⟨v,rfl,rfl⟩,hp2,ha⟩:=hp;have HA:=hide ha;have HQ:=hide hq
  have HP2:=hide hp2;clear hr HC hp2 ha hq HS
  cases hr2:deepP c.l F.vl d j1 with
  | out=>rw[hr2] at HQ;exact absurd HQ.out HO.out
  | bad er pl=>
   have HC2:=hide (HF.out.vl w1 d j1 _ hd hr2.symm (by nofun) HP2.out);rw[hr2] at HQ;have hq:r=.bad er pl:=unhide HQ;subst hq;clear hr2;go_wp2_with fail;refine cm HC2.out ?_
   rintro e w2 ⟨⟨v,rfl,q,rfl⟩,⟨j2,hp3⟩,he,ha2⟩;exact zbeh
  | ok t j2=>
   have HC2:=hide (HF.out.vl w1 d j1 _ hd hr2.symm (by nofun) HP2.out);rw[hr2] at HQ;have hq:r=(mustP c.l tShut j2).bind fun _ i3=>.ok t i3:=unhide HQ;have HQ2:=hide hq;clear hr2 hq HQ;go_wp2_with fail
   refine cm HC2.out ?_;rintro e w2 ⟨⟨v,rfl,q,rfl,hn⟩,hp3,ha2⟩;have HA2:=hide (HA.out.next ha2);have HN:=hide hn;have HSZ:=hide HA.out.size;have HC3:=hide (rmust_any c w2 j2 tShut (by decide) hp3)
   clear HC2 ha2 hp3 hn;go_wp2_with fail;refine cm HC3.out ?_;intro e w3 hp
   cases hr3:mustP c.l tShut j2 with
   | out=>rw[hr3] at HQ2;exact absurd HQ2.out HO.out
   | bad er pl=>
    rw[hr3] at hp HQ2;have hq:r=.bad er pl:=unhide HQ2;subst hq;obtain⟨⟨v,rfl,rfl⟩,hp2,he,ha⟩:=hp;have HA3:=hide (HA2.out.next ha);have HP3:=hide hp2;clear hr3 HC3 hp2 ha;go_wp2_with fail;go_ret
    exact⟨⟨_,rfl,q,rfl⟩,HP3.out,he,HA3.out⟩
   | ok x3 j3=>
    rw[hr3] at hp HQ2;have hq:r=.ok t j3:=unhide HQ2;subst hq;obtain⟨⟨v,rfl,rfl⟩,hp2,ha⟩:=hp;have HA3:=hide (HA2.out.next ha);have HP3:=hide hp2
    have HN3:Hid (NAt (fun b=>w.heap.size≤b) w3 t q):=NAt.mono (fun b hb _=>Nat.le_trans HSZ.out hb) _ _ (NAt.later (Stay.of_ap ha (B:=w1.heap.size) (by have h1:=unhide HLT;have h2:=unhide HSZ;omega) fun _ h=>h) _ _ HN.out)
    clear hr3 HC3 hp2 ha;go_wp2_with fail;go_ret;exact⟨⟨_,rfl,q,rfl,HN3.out⟩,HP3.out,HA3.out⟩
end
def strictS:List Tr→ByteArray
 | .mk k1 _ _ (.mk k2 t2 _ _::_)::_=>if k1=15∧k2=18∧t2=tUse then tStrict else noText
 | _=>noText
theorem codeT_block (n:Int)(kd:Int)(ts:List Tr):codeT (.mk kd noText n ts)=.mk kd (strictS ts) n ts:=by
 unfold codeT strictS
 split <;> rename_i h
 ·simp only[Tr.mk.injEq] at h;obtain⟨rfl,rfl,rfl,rfl⟩:=h;rfl
 ·split
  ·rename_i h2
   exact absurd rfl (h _ _ _ _ _ _ _ _ _ _ _ _)
  ·rfl
theorem strictS_no1 {t:Tr}{r:List Tr}(h:t.kd≠15):strictS (t::r)=noText:=by
 unfold strictS
 split
 ·rename_i heq
  simp only[List.cons.injEq] at heq;obtain⟨rfl,_⟩:=heq;rw[if_neg (fun hh=>h hh.1)]
 ·rfl
theorem strictS_no2 {t k2:Tr}{r r1:List Tr}(hk:t.kids=k2::r1)(h:k2.kd≠18∨k2.tx≠tUse):strictS (t::r)=noText:=by
 cases t with
 | mk a b c ds=>
  simp only[Tr.kids] at hk;subst hk
  cases k2 with
  | mk a2 b2 c2 d2=>
   simp only[Tr.kd,Tr.tx] at h;simp only[strictS];rw[if_neg];rintro⟨_,h2,h3⟩
   rcases h with h|h
   ·exact h h2
   ·exact h h3
theorem strictS_yes {t k2:Tr}{r r1:List Tr}(h1:t.kd=15)(hk:t.kids=k2::r1)(h2:k2.kd=18)(h3:k2.tx=tUse):strictS (t::r)=tStrict:=by
 cases t with
 | mk a b c ds=>
  simp only[Tr.kids] at hk;subst hk
  cases k2 with
  | mk a2 b2 c2 d2=>
   simp only[Tr.kd,Tr.tx] at h1 h2 h3;simp only[strictS];rw[if_pos ⟨h1,h2,h3⟩]
theorem strict_any {B:Nat}{w:World}{ts:List Tr}{v:Value}(hk:KV B w ts v)(hx:∀ t ∈ ts,t.kd=15→∃ v r,t.kids=v::r)(hl:ts.length≤100000) :
  Calls Tryz.prog 112 #[v] w fun e w'=>e=.returned (.string (strictS ts))∧w'=w:=by
 cases ts with
 | nil=>
  obtain⟨a,cap,rfl⟩:=hk.shape;clear hk hx hl;go_enter Tryz.func112,Tryz.ntmps112;go_wp2_with fail;go_ret;exact⟨rfl,rfl⟩
 | cons t r=>
  obtain⟨ps,hr,hks⟩:=hk;have hlen:=NAts.length _ _ hks;obtain⟨g,cap,rfl,hc⟩:=row_open hr (by rw[hlen];simp)
  have hc0:=hc 0 (by rw[hlen];simp)
  obtain⟨p,ps',rfl,hn,_⟩:=hks.parts;simp only[List.getElem_cons_zero] at hc0;rw[hlen];have hl1:(0:Int)<((t::r).length:Int):=by simp
  obtain⟨u,qs,hb,hrow,hkids⟩:=hn.opens;obtain⟨f0,_,_,f3,_⟩:=node_cells hb;obtain⟨L,hL⟩:∃ L,L=(t::r).length:=⟨_,rfl⟩;rw[←hL] at hl1 ⊢
  have hgt:decide ((L:Int) > 0)=true:=by simpa using hl1
  by_cases h15:t.kd=15
  ·obtain⟨k2,r1,hk2⟩:=hx t (by simp) h15;rw[hk2] at hkids;have hlen2:=NAts.length _ _ hkids;obtain⟨g2,cap2,rfl,hcc⟩:=row_open hrow (by rw[hlen2];simp)
   have hcc0:=hcc 0 (by rw[hlen2];simp)
   obtain⟨p2,qs',rfl,hn2,_⟩:=hkids.parts;simp only[List.getElem_cons_zero] at hcc0;have hq1:(0:Int)<(((p2::qs').length:Nat):Int):=by simp
   obtain⟨u2,_,hb2,_,_⟩:=hn2.opens;obtain⟨e0,e1,_,_,_⟩:=node_cells hb2;rw[h15] at f0;obtain⟨L2,hL2⟩:∃ L2,L2=(p2::qs').length:=⟨_,rfl⟩;rw[←hL2] at f3 hq1;clear hL2
   by_cases h18:k2.kd=18
   ·rw[h18] at e0
    by_cases hu:k2.tx=tUse
    ·have hst:=strictS_yes (r:=r) h15 hk2 h18 hu;have bu:(k2.tx.toList==[117,115,101,32,115,116,114,105,99,116])=true:=tl_eqL (b:=tUse) rfl hu;have HST:=hide hst
     clear hst hk2 hx hr hc hrow hcc hb hb2 hn hn2 hlen hlen2 hL hl hu h18 h15;exact zbej
    ·have hst:=strictS_no2 (r:=r) hk2 (Or.inr hu);have bu:(k2.tx.toList==[117,115,101,32,115,116,114,105,99,116])=false:=tl_neL (b:=tUse) rfl hu;have HST:=hide hst
     clear hst hk2 hx hr hc hrow hcc hb hb2 hn hn2 hlen hlen2 hL hl hu h18 h15;exact zbej
   ·have hst:=strictS_no2 (r:=r) hk2 (Or.inl h18);have b18:(k2.kd==18)=false:=beq_eq_false_iff_ne.2 h18;have HST:=hide hst;clear hst hk2 hx hr hc hrow hcc hb hb2 hn hn2 hlen hlen2 hL hl h18 h15;exact zbej
  ·have hst:=strictS_no1 (r:=r) h15;have b15:(t.kd==15)=false:=beq_eq_false_iff_ne.2 h15;have HST:=hide hst;clear hst hx hr hc hrow hb hn hlen hL hl h15;exact zbej
end Go.Proofs.YtoimgcjbcbhclaaGreatDoor
