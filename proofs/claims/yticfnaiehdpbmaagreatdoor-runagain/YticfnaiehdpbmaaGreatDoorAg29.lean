import Derived.Test.YticfnaiehdpbmaaGreatDoorAg27
set_option maxRecDepth 100000
set_option maxHeartbeats 8000000
set_option linter.unusedVariables false
namespace Go.Proofs.YticfnaiehdpbmaaGreatDoor
open Go.RowKit Go.Proofs.Tryz
namespace Hp
section
open Go.RowKit Go.Extern.Stop Go.Stop Go.Extern
theorem ali {w:Ny}{T:Nat}{n v0:NP}(bG iU:Obj)(dA:w.cell? (Nv T 0)=some v0)(jH:T<w.heap.size) :
  (((w.setCell (Nv T 0) n).alloc bG).alloc iU).cell? (Nv T 0)=some n/\Below T w (((w.setCell (Nv T 0) n).alloc bG).alloc iU):=by
 have tw:Below T w (w.setCell (Nv T 0) n):=P8.setCell (p:=(Nv T 0)) OH _;have aJ:=tw.size;have h0:(w.setCell (Nv T 0) n).cell? (Nv T 0)=some n:=World.cell?_setCell_same _ _ _ dA;have h1:((w.setCell (Nv T 0) n).alloc bG).cell? (Nv T 0)=some n:=by rw[World.cell?_alloc_past _ _ _ Nw];exact h0
 have b6:((w.setCell (Nv T 0) n).alloc bG).heap.size=(w.setCell (Nv T 0) n).heap.size+1:=World.size_alloc _ _;refine⟨by rw[World.cell?_alloc_past _ _ _ Nw];exact h1,(tw.alloc Nw _).alloc Nw _⟩
theorem as_hit (n:Int)(T a:Nat)(w:Ny)(dA:w.cell? (Nv T 0)=some (Nr 0))(ak:w.frozen? (Nv T 0)=false)(aw:w.cell? (Nv a 0)=some (NM T 0))(jH:T<w.heap.size)(mY:a<w.heap.size) :
  NK 65 #[.iface 34 (Nr n),.iface 86 (NM T 0),.agg #[NM 13 86,NM a 0,.int .u64 150],.iface 215 (.agg #[NM 13 34])] w fun e w'=>
   e=NU (NI true)/\w'.cell? (Nv T 0)=some (Nr n)/\Below T w w':=by
 have z:=kk (∀{G}(h:G:=by
 have z:=kk (∀{G}(h:G:=by
 go_enter func65,ntmps65
 go_wp2
 refine wp_loop_rounds 1 ?_;exact asT),G);exact awH),G);exact zss
theorem asU (n:Int)(T:Nat)(w:Ny)(dA:w.cell? (Nv T 0)=some (Nr 0))(ak:w.frozen? (Nv T 0)=false)(jH:T<w.heap.size)(hg:w.cell? (Nv 0 0)=some (.iface 215 (.agg #[NM 13 31]))) :
  NK 32 #[.iface 34 (Nr n),.iface 86 (NM T 0)] w fun e w'=>e=NU (NI true)/\w'.cell? (Nv T 0)=some (Nr n)/\Below T w w':=by
 have z:=kk (∀{G}(h:G:=by
 have z:=kk (∀{G}(h:G:=by
 have z:=kk (∀{G}(h:G:=by
 have n0:=R9.ain (Nv w.heap.size 0) (Nv T 0) fb aw;rw[f6] at n0;have ah:Hid _:=as_hit n T w.heap.size fb mX oA aw Nw Nw;rw[f6] at ah jq;clear b6 oA mX aw f6 fb;exact aoJ),G);exact asV),G);exact awI),G);exact zsm
theorem awJ (n:Int)(b:Nat)(T a:Nat)(w:Ny)(dA:w.cell? (Nv T 0)=some (Nr 0))(ak:w.frozen? (Nv T 0)=false)(aw:w.cell? (Nv a 0)=some (NM T 0))(jH:T<w.heap.size)(mY:a<w.heap.size)(D:w.cell? (Nv b 0)=some (Nr n))(ja:b<w.heap.size) :
  NK 65 #[.iface 150 (NM b 0),.iface 86 (NM T 0),.agg #[NM 13 86,NM a 0,.int .u64 150],.iface 215 (.agg #[NM 13 34])] w fun e w'=>
   e=NU (NI true)/\w'.cell? (Nv T 0)=some (Nr n)/\Below T w w':=by
 have z:=kk (∀{G}(h:G:=by
 have z:=kk (∀{G}(h:G:=by
 have M9:=R9.ajo;have Ky:=R9.YT;have MS:=R9.aoK;have n110:∀ (v:NP) (gk:TypeId) (w:Ny),(Instr.typeAssert (.iface 150 v) gk 220 true).run prog w=.ok (.tuple #[Pe,NI false]) w:=fun v gk w=>run_typeAssert_lacksB underlying220 OJ OJ v gk w;have Np:∀ (v:NP) (gk:TypeId) (w:Ny),(Instr.typeAssert (.iface 150 v) gk 223 true).run prog w=.ok (.tuple #[.iface 150 v,NI true]) w:=fun v gk w=>run_typeAssert_hasB underlying223 OJ v gk w
 have b4:(w.alloc (.cells #[NM 13 86,NM a 0,.int .u64 150] 130)).cell? (Nv b 0)=some (Nr n):=by rw[World.cell?_alloc_past _ _ _ ja];exact D
 go_enter func65,ntmps65
 go_wp2
 refine wp_loop_rounds 2 ?_;rw[rounds_succ]
 go_wp2
 exact asT),G);exact awH),G);exact zss
theorem awK (n:Int)(b:Nat)(T:Nat)(w:Ny)(dA:w.cell? (Nv T 0)=some (Nr 0))(ak:w.frozen? (Nv T 0)=false)(jH:T<w.heap.size)(hg:w.cell? (Nv 0 0)=some (.iface 215 (.agg #[NM 13 31])))(D:w.cell? (Nv b 0)=some (Nr n))(ja:b<w.heap.size) :
  NK 32 #[.iface 150 (NM b 0),.iface 86 (NM T 0)] w fun e w'=>e=NU (NI true)/\w'.cell? (Nv T 0)=some (Nr n)/\Below T w w':=by
 have z:=kk (∀{G}(h:G:=by
 have z:=kk (∀{G}(h:G:=by
 have z:=kk (∀{G}(h:G:=by
 have n0:=R9.ain (Nv w.heap.size 0) (Nv T 0) fb aw;rw[f6] at n0;have cp:fb.cell? (Nv b 0)=some (Nr n):=by rw[f6,World.cell?_alloc_past _ _ _ Qa,World.cell?_alloc_past _ _ _ ja];exact D
 have ah:Hid _:=awJ n b T w.heap.size fb mX oA aw Nw Nw cp Nw;rw[f6] at ah jq;clear b6 oA mX aw f6 fb cp;exact aoJ),G);exact asV),G);exact awI),G);exact zsm
theorem asW (bc:Nat)(T a:Nat)(w:Ny)(dA:w.cell? (Nv T 0)=some Qb)(ak:w.frozen? (Nv T 0)=false)(aw:w.cell? (Nv a 0)=some (NM T 0))(jH:T<w.heap.size)(mY:a<w.heap.size) :
  NK 65 #[.iface 122 (NM bc 0),.iface 123 (NM T 0),.agg #[NM 13 123,NM a 0,.int .u64 150],.iface 215 (.agg #[NM 13 122])] w fun e w'=>
   e=NU (NI true)/\w'.cell? (Nv T 0)=some (NM bc 0)/\Below T w w':=by
 have z:=kk (∀{G}(h:G:=by
 have z:=kk (∀{G}(h:G:=by
 refine wp_loop_rounds 1 ?_;exact asT),G);exact awL),G);exact zss
theorem aDF (bc:Nat)(T:Nat)(w:Ny)(dA:w.cell? (Nv T 0)=some Qb)(ak:w.frozen? (Nv T 0)=false)(jH:T<w.heap.size)(hg:w.cell? (Nv 0 0)=some (.iface 215 (.agg #[NM 13 31]))) :
  NK 32 #[.iface 122 (NM bc 0),.iface 123 (NM T 0)] w fun e w'=>e=NU (NI true)/\w'.cell? (Nv T 0)=some (NM bc 0)/\Below T w w':=by
 have z:=kk (∀{G}(h:G:=by
 have z:=kk (∀{G}(h:G:=by
 have ah:Hid _:=asW bc T w.heap.size fb mX oA aw Nw Nw;rw[f6] at ah jq;clear b6 oA mX aw f6 fb;exact aoJ),G);exact asX),G);exact zsm
theorem aoL (n:Int)(T a:Nat)(w:Ny)(_:w.cell? (Nv T 0)=some Qb)(_:w.frozen? (Nv T 0)=false)(_:w.cell? (Nv a 0)=some (NM T 0))(_:T<w.heap.size)(_:a<w.heap.size) :
  NK 65 #[.iface 34 (Nr n),.iface 123 (NM T 0),.agg #[NM 13 123,NM a 0,.int .u64 150],.iface 215 (.agg #[NM 13 122])] w fun e w'=>
   e=NU (NI false)/\NJ w w':=by
 have z:=kk (∀{G}(h:G:=by
 have BH:=R9.aeA;have G8:=R9.YU;have n220:∀ (v:NP) (gk:TypeId) (w:Ny),(Instr.typeAssert (.iface 34 v) gk 220 true).run prog w=.ok (.tuple #[Pe,NI false]) w:=fun v gk w=>run_typeAssert_lacksB underlying220 OJ OJ v gk w;have n223:∀ (v:NP) (gk:TypeId) (w:Ny),(Instr.typeAssert (.iface 34 v) gk 223 true).run prog w=.ok (.tuple #[Pe,NI false]) w:=fun v gk w=>run_typeAssert_lacksB underlying223 OJ OJ v gk w
 have n224:∀ (v:NP) (gk:TypeId) (w:Ny),(Instr.typeAssert (.iface 34 v) gk 224 true).run prog w=.ok (.tuple #[Pe,NI false]) w:=fun v gk w=>run_typeAssert_lacksB underlying224 OJ OJ v gk w;go_enter func65,ntmps65
 go_wp2
 refine wp_loop_rounds 1 ?_;rw[rounds_succ]
 go_wp2
 go_ret;exact⟨rfl,OM⟩),G);exact zss
theorem aoM (n:Int)(T:Nat)(w:Ny)(dA:w.cell? (Nv T 0)=some Qb)(ak:w.frozen? (Nv T 0)=false)(jH:T<w.heap.size)(hg:w.cell? (Nv 0 0)=some (.iface 215 (.agg #[NM 13 31]))) :
  NK 32 #[.iface 34 (Nr n),.iface 123 (NM T 0)] w fun e w'=>e=NU (NI false)/\NJ w w':=by
 have z:=kk (∀{G}(h:G:=by
 have z:=kk (∀{G}(h:G:=by
 have ah:Hid _:=aoL n T w.heap.size fb mX oA aw Nw Nw;exact awM),G);exact asX),G);exact zsm
theorem alj (bc:Addr)(T a:Nat)(w:Ny)(_:w.cell? (Nv T 0)=some Qb)(_:w.frozen? (Nv T 0)=false)(_:w.cell? (Nv a 0)=some (NM T 0))(_:T<w.heap.size)(_:a<w.heap.size) :
  NK 65 #[.iface 359 (.pointer (some bc)),.iface 123 (NM T 0),.agg #[NM 13 123,NM a 0,.int .u64 150],.iface 215 (.agg #[NM 13 122])] w fun e w'=>
   e=NU (NI false)/\NJ w w':=by
 have z:=kk (∀{G}(h:G:=by
 have BH:=R9.ajp;have G8:=R9.Yk;have n220:∀ (v:NP) (gk:TypeId) (w:Ny),(Instr.typeAssert (.iface 359 v) gk 220 true).run prog w=.ok (.tuple #[Pe,NI false]) w:=fun v gk w=>run_typeAssert_lacksB underlying220 OJ OJ v gk w;have n223:∀ (v:NP) (gk:TypeId) (w:Ny),(Instr.typeAssert (.iface 359 v) gk 223 true).run prog w=.ok (.tuple #[Pe,NI false]) w:=fun v gk w=>run_typeAssert_lacksB underlying223 OJ OJ v gk w
 have n224:∀ (v:NP) (gk:TypeId) (w:Ny),(Instr.typeAssert (.iface 359 v) gk 224 true).run prog w=.ok (.tuple #[Pe,NI false]) w:=fun v gk w=>run_typeAssert_lacksB underlying224 OJ OJ v gk w;go_enter func65,ntmps65
 go_wp2
 refine wp_loop_rounds 1 ?_;rw[rounds_succ]
 go_wp2
 go_ret;exact⟨rfl,OM⟩),G);exact zss
theorem aeB (bc:Addr)(T:Nat)(w:Ny)(dA:w.cell? (Nv T 0)=some Qb)(ak:w.frozen? (Nv T 0)=false)(jH:T<w.heap.size)(hg:w.cell? (Nv 0 0)=some (.iface 215 (.agg #[NM 13 31]))) :
  NK 32 #[.iface 359 (.pointer (some bc)),.iface 123 (NM T 0)] w fun e w'=>e=NU (NI false)/\NJ w w':=by
 have z:=kk (∀{G}(h:G:=by
 have z:=kk (∀{G}(h:G:=by
 have ah:Hid _:=alj bc T w.heap.size fb mX oA aw Nw Nw;exact awM),G);exact asX),G);exact zsm
theorem alk (T:Nat)(w:Ny)(P:TypeId):NK 32 #[Pe,.iface P (NM T 0)] w fun e w'=>e=NU (NI false)/\w'=w:=by
 go_enter func32,ntmps32;go_wp2_with fail;go_ret;exact⟨rfl,rfl⟩
abbrev Qp (w:Ny):Prop:=w.cell? (Nv 0 0)=some (.iface 215 (.agg #[NM 13 31]))
theorem XK {w:Ny}(h:Qp w):0<w.heap.size:=by
 rcases Nat.lt_or_ge 0 w.heap.size with fj|fj
 ·exact fj
 ·simp[Qp,World.cell?,Array.getElem?_eq_none fj] at h
theorem Ua {w w':Ny}{B:Nat}(h:Qp w)(D:Below B w w')(aZ:0<B):Qp w':=by
 unfold Qp;rw[D.cell (p:=(Nv 0 0)) aZ];exact h
theorem aap (n:Int)(w:Ny)(hg:Qp w) :
  NK 12 #[.iface 34 (Nr n)] w fun e w'=>e=NU (Nr n)/\NJ w w':=by
 have z:=kk (∀{G}(h:G:=by
 have ah:Hid _:=asU n w.heap.size fb dA ak Nw iE;rw[f6] at ah jq;clear iE b6 ak dA f6 fb dx;exact awN),G);exact awO
theorem aDo (n:Int)(b:Nat)(w:Ny)(hg:Qp w)(D:w.cell? (Nv b 0)=some (Nr n))(ja:b<w.heap.size) :
  NK 12 #[.iface 150 (NM b 0)] w fun e w'=>e=NU (Nr n)/\NJ w w':=by
 have z:=kk (∀{G}(h:G:=by
 have cp:fb.cell? (Nv b 0)=some (Nr n):=by rw[f6,World.cell?_alloc_past _ _ _ ja];exact D
 have ah:Hid _:=awK n b w.heap.size fb dA ak Nw iE cp Nw;rw[f6] at ah jq;clear iE b6 ak dA f6 fb dx cp;exact awN),G);exact awO
theorem alm (w:Ny):NK 12 #[Pe] w fun e w'=>e=NU (Nr 0)/\NJ w w':=by
 go_enter func12,ntmps12;go_wp2_with fail;go_ret;exact⟨rfl,P8⟩
theorem UO (c:Int)(w:Ny)(hg:Qp w):NK 12 #[RY c] w fun e w'=>e=NU (Nr c)/\NJ w w':=by
 by_cases h:c=0
 ·subst h;exact alm w
 ·rw[ac0 h];exact aap c w hg
end
end Hp
end Go.Proofs.YticfnaiehdpbmaaGreatDoor
