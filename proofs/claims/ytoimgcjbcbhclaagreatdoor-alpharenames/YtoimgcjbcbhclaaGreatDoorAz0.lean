import Derived.Test.YtoimgcjbcbhclaaGreatDoorProg
import Derived.WalkKit
import Derived.Deep.LoopGhost
import Derived.Deep.RegionWith
set_option maxRecDepth 100000
set_option maxHeartbeats 0
set_option linter.all false
namespace Go.Proofs.YtoimgcjbcbhclaaGreatDoor
open Go.RowKit Go.Proofs.Tryz
section
def zalaa:=@Below.heap_alloc
def zalab:=@List.length_append
def zalac:=@List.take_succ_eq_append_getElem
def zalad:=@Or.inl
def zalae:=@Nat.zero_le
def zalaf:=@List.mem_singleton
def zalag:=@List.length_map
def zalah:=@if_neg
def zalai:=@List.getElem?_eq_getElem
def zalaj:=@beq_eq_false_iff_ne
def zalak:=@if_pos
def zalal:=@Or.inr
def zalam:=@List.map_append
def zalan:=@Nat.le_trans
def zalao:=@List.getElem_mem
def zalap:=@Below.heap_setCell
def zalaq:=@List.take_length
def zalar:=@World.cell?_of_block
def zalas:=@List.mem_cons
def zalat:=@List.mem_append
def zalau:=@Nat.lt_of_lt_of_le
def zalaw:=@decide_eq_false
def zalax:=@List.append_assoc
def zalay:=@List.getD_eq_getElem?_getD
def zalaz:=@decide_eq_true
def zalba:=@List.append_nil
def zalbb:=@List.map_cons
def zalbc:=@List.mem_of_find?_eq_some
def zalbd:=@Below.refl
def zalbe:=@List.length_take
def zalbf:=@List.length_cons
def zalbg:=@List.filter_cons
def zalbi:=@World.cell?_alloc_past
def zalbj:=@underlying89
def zalbk:=@underlying46
def zalbl:=@info_parts
def zalbm:=@List.length_singleton
def zalbn:=@Bool.false_or
def zalbo:=@Option.some.inj
def zalbq:=@List.nil_append
def zalbr:=@List.length_eq_zero_iff
def zalbs:=@List.drop_eq_getElem_cons
def zalbu:=@Sem.run_bind
def zalbv:=@Array.getElem?_eq_some_iff
def zalbw:=@Option.some.injEq
def zalbx:=@List.getElem?_map
def zalby:=@List.foldl_append
def zalbz:=@beq_iff_eq
def zalca:=@List.mem_cons_of_mem
def zalcb:=@Value.slice.injEq
def zalcc:=@List.mem_filter
def zalcd:=@List.take_append_drop
def zalce:=@run_callFunc_extern
def zalcf:=@List.mem_iff_getElem
def zalcg:=@List.filter_append
def zalch:=@underlying201
def zalci:=@List.length_filter_le
def zalcj:=@List.mem_map_of_mem
def zalck:=@List.find?_cons
def zalcl:=@run_underlying
def zalcm:=@Result.andThen_ok
def zalcn:=@List.mem_map
def zalco:=@Bool.true_or
def zalcp:=@List.foldl_cons
def zalcq:=@List.cons_append
def zalcr:=@wpList_append_own
def zalcs:=@bodyPost_ret
def zalct:=@Bool.false_eq_true
def zalcu:=@List.filter_nil
def zalcv:=@List.take_of_length_le
def zalcw:=@List.not_mem_nil
def zalcx:=@List.getElem_map
def zalcy:=@List.getElem?_eq_some_iff
def zalda:=@Nat.zero_add
def zaldb:=@World.cell?_alloc_at
def zaldc:=@List.mem_append_left
def zaldd:=@List.any_eq_true
def zalde:=@underlying38
def zaldf:=@ByteArray.toList_eq
def zaldg:=@congrArg
def zaldh:=@Bool.or_eq_true
def zaldi:=@List.mem_append_right
def zaldj:=@Nat.lt_or_eq_of_le
def zaldk:=@Tryz.underlying9
def zaldl:=@List.map_take
def zaldm:=@List.flatten_cons
def zaldn:=@List.getElem_cons_zero
def zaldo:=@Array.getElem?_eq_none
def zaldq:=@AllReady.cons
def zaldr:=@getD_set_ne
def zalds:=@List.getElem?_append_right
def zaldu:=@Option.filter_eq_some_iff
def zaldv:=@List.length_nil
def zaldw:=@List.find?_some
def zaldx:=@decide_eq_true_eq
def zaldy:=@List.nodup_append
def zaleb:=@Prod.mk.injEq
def zalec:=@wpAny_done
def zaled:=@List.flatten_nil
def zalee:=@Bool.and_eq_true
def zalef:=@World.frozen?_of_block
def zaleg:=@bne_iff_ne
def zaleh:=@if_true
def zalei:=@Bool.false_and
def zalej:=@Option.getD_some
def zalek:=@Array.length_toList
def zalel:=@Array.setIfInBounds_comm
def zalem:=@underlying161
def zalen:=@Nat.add_assoc
def zaleo:=@Bool.true_and
def zalep:=@Nat.not_lt_zero
def zaleq:=@List.any_append
def zaler:=@DataW.agg.injEq
def zales:=@World.size_setCell
def zalet:=@List.find?_eq_none
def zaleu:=@World.frozen?_alloc_old
def zalev:=@List.getElem_cons_succ
def zalew:=@Nat.lt_succ_of_lt
def zalex:=@Function.comp_def
def zaley:=@List.map_map
def zalez:=@Bool.or_true
def zalfa:=@AllReady.nil
def zalfb:=@or_false
def zalfc:=@Array.getElem?_modify
def zalfd:=@List.find?_eq_some_iff_getElem
def zalfe:=@Region.noSelect_spec
def zalff:=@wpAny_ready
def zalfg:=@if_false
def zalfh:=@List.cons.injEq
def zalfi:=@Ne.symm
def zalfj:=@List.zipIdx_append
def zalfk:=@List.find?_map
def zalfl:=@bind_assoc
def zalfm:=@List.getElem?_append_left
def zalfn:=@List.find?_append
def zalfo:=@List.getElem?_take_of_lt
def zalfp:=@wp_region_any
def zalfq:=@underlying114
def zalfr:=@Bool.or_false
def zalfs:=@Bool.or_assoc
def zalft:=@Addr.mk.injEq
def zalfu:=@Nat.add_sub_cancel_left
def zalfv:=@List.prefix_iff_eq_take
def zalfw:=@List.getElem?_cons_zero
def zalfx:=@Tryz.underlying3
def zalfy:=@Region.free_spec
def zalfz:=@List.zipIdx_cons
def zalga:=@List.getElem_inj
def zalgb:=@underlying71
def zalgc:=@Nat.ne_of_lt
def zalgd:=@Nat.lt_or_ge
def zalge:=@Nat.le_of_eq
def zalgf:=@results109
def zalgg:=@ready_mono
def zalgh:=@wpList_load_row
def zalgi:=@World.var?_cell
def zalgj:=@Option.map_some
def zalgk:=@List.nodup_cons
def zalgl:=@WideShapes.bytes_inj
def zalgm:=@heap_alloc_new
def zalgn:=@List.foldl_nil
def zalgo:=@underlying9
def zalgq:=@List.takeWhile_cons
def zalgr:=@List.reverse_append
def zalgs:=@List.getElem_of_mem
def zalgt:=@List.getD_cons_zero
def zalgu:=@Array.toList_filter
def zalgv:=@wpS_seq
def zalgw:=@dif_pos
def zalgx:=@underlying121
def zalgy:=@List.mem_cons_self
def zalgz:=@List.getElem?_drop
def zalha:=@wpS_region
def zalhb:=@Calls.mono
def zalhc:=@List.findIdx?_eq_some_iff_getElem
def zalhd:=@World.ownsRow_nil
def zalhe:=@World.ownsRow_lit
def zalhf:=@List.getElem_take
def zalhg:=@underlying22
def zalhh:=@decide_false
def zalhi:=@ntmps131
def zalhj:=@List.length_pos_iff_exists_mem
def zalhk:=@World.size_alloc
def zalhl:=@List.mem_reverse
def zalhm:=@List.length_drop
def zalho:=@results36
def zalhp:=@mem_ready
def zalhq:=@Nat.add_mul
def zalhr:=@Nat.min_eq_left
def zalhs:=@List.sum_append
def zalht:=@func131
def zalhu:=@dif_neg
def zalhv:=@List.take_take
def zalhw:=@List.drop_drop
def zalhx:=@DataW.trod_int
def zalhy:=@and_true
def zalhz:=@List.getElem_append_right
def zalia:=@List.findIdx?_eq_none_iff
def zalib:=@wp_seq
def zalic:=@List.getElem_append_left
def zalid:=@underlying257
def zalie:=@List.sum_cons
structure Kk (C:Prop):Prop where
 o:C
def LG{C:Prop}(k:C):Kk C:=⟨k⟩
attribute [go_sem] results100 results123 results124 results14 results157 results159 results160 results161 results17 results236 results293 results31 results37 results59 results68 results70
variable {P:Program} {gq:Func} {R:Ending->World->Prop} {a:Act} {w:World} {v:Value}
def aHT (a7:R (.returned v) w)(T:(results gq a.tmps).run P w=.ok v w:=by simp[results,go_sem,cn,bC,dM])(aD:a.defers=[]:=by rfl):bodyPost P gq R .ret a w:=⟨aD,v,T,a7⟩
def ayh (a7:R (.returned v) w)(T:(results gq a.tmps).run P w=.ok v w:=by simp[results,go_sem,cn,bC,dM,iE])(aD:a.defers=[]:=by rfl):bodyPost P gq R .ret a w:=⟨aD,v,T,a7⟩
def aHU (a7:R (.returned v) w)(T:(results gq a.tmps).run P w=.ok v w:=by simp[results,go_sem,cn,bC,dM,vU])(aD:a.defers=[]:=by rfl):bodyPost P gq R .ret a w:=⟨aD,v,T,a7⟩
def Ug (a7:R (.returned v) w)(T:(results gq a.tmps).run P w=.ok v w:=by simp[results,go_sem])(aD:a.defers=[]:=by rfl):bodyPost P gq R .ret a w:=⟨aD,v,T,a7⟩
def adY (a7:R (.returned v) w)(T:(results gq a.tmps).run P w=.ok v w:=by simp[results,go_sem,am])(aD:a.defers=[]:=by rfl):bodyPost P gq R .ret a w:=⟨aD,v,T,a7⟩
def aHV (a7:R (.returned v) w)(T:(results gq a.tmps).run P w=.ok v w:=by simp[results,go_sem,cn,bC,dM,iE,vU])(aD:a.defers=[]:=by rfl):bodyPost P gq R .ret a w:=⟨aD,v,T,a7⟩
end
section
variable {G X:Prop}
def zta (h:G:=by
  have kN:=hide (Stn.new h);have am:=NP c (w.alloc nd0) i Nc MK kN.out.ps;rw[decide_eq_false jm] at am;have ag:=hide am;clear h;go_enter func111,ntmps111;go_wp2_with fail;refine NJ ?_;rintro e w1 ⟨rfl,D⟩;have f':=hide (kN.out.below D);have ag:=hide (OZ c w1 i Nb MK e1 f'.out.ps);go_wp2_with fail;refine NJ ?_;rintro e w2 ⟨rfl,D⟩;have dw:=hide (f'.out.below D);have ag:=hide (OZ c w2 i MI MK e2 dw.out.ps);go_wp2_with fail;refine NJ ?_;rintro e aq ⟨rfl,D⟩;have iJ:=hide (dw.out.below D)
  have ag:=hide (OZ c aq i tIf MK fE iJ.out.ps);go_wp2_with fail;refine NJ ?_;rintro e bh ⟨rfl,D⟩;have nO:=hide (iJ.out.below D);have am:=NP c bh i QN MK nO.out.ps;exact(br).o):G:=h
def ztb (h:G:=by
  obtain⟨a6,b4,bL,bM,bP⟩:=info_parts info9;obtain⟨M,rQ⟩:∃ M,M=P++[Nr]:=⟨_,rfl⟩;rw[<-rQ];obtain⟨F,ai⟩:∃ F,F=M++aR:=⟨_,rfl⟩;rw[<-ai];have BV:M.length=P.length+1:=by rw[rQ];simp
  have hZ:=hide rQ;have bN:=hide ai;have uP:=hide BV;clear rQ ai BV;obtain⟨c0,c1,⟨g,n,cap,gy,c3,ct,d1⟩,cg,hnum,bB,⟨eq,uc,bO,eC⟩,ix,lH,Kl,yN⟩:=h;have bF:=cell_lt c0;have de:=cell_lt ct;have iU:=cell_lt cg;have eZ:=cell_lt bO;have hm:¬ n=0:=LM;have eH:¬ (n:Int)<=1:=LM;clear gy;have nC:=hide hnum;exact(br).o):G:=h
def ztc (h:G:=by
  rintro e gm ⟨⟨rfl,yG⟩,mX⟩;have mU:LX w2 gm:=jE.trans (mX.mono jE.size);have CV:=Na.later tS mX;have bG:gm.heap[w.heap.size+1]? = some (NK #[Pe,L9 false] 112):=by rw[mU.block _ LM];exact Lu bX
  have qV:gm.cell? (LD (w.heap.size+1) 0)=some Pe:=by rw[cell_of bG];rfl
  have qW:gm.cell? (LD (w.heap.size+1) 1)=some (L9 false):=by rw[cell_of bG];rfl
  have la:=Ny bG;have jG:=lt_of_heap bG;have fH:=hide jE.size;refine U.out _ _ (λ_=>mU) ?_;clear U K;refine Qh 20 λK U=>?_;go_simp;refine zlm ?_;clear U K;refine abY ?_;exact(br).o):G:=h
def ztd (h:G:=by
  refine cm cy.out ?_;rintro e w1 ⟨rfl,D⟩;have cD:=hide (((((Av.out.alloc (ab3 c)).alloc (ab4 d)).alloc (aae (MJ c.l i))).drew).later D);have b7:=hide ((atS c w d (aae (MJ c.l i))).next (Ap.of D));have ba:=hide ((anY c w d (aae (MJ c.l i)) a7).ap (Ap.of D));exact(br).o):G:=h
def zte (h:G:=by
  have fJ:LX w (w.alloc (.cells #[.pointer aQ,L9 false] 112)):=Qn;obtain⟨w2,bW⟩:∃ w2,w2=w.alloc (.cells #[.pointer aQ,L9 dk] 112):=⟨_,rfl⟩;have bj:Hid (LX w w2):=by show Below _ _ _;rw[bW];exact Qn
  have cU:Hid (w2.heap[w.heap.size]? = some (NK #[.pointer aQ,L9 dk] 112)):=by show _=_;rw[bW];exact LP _ _
  have f6:=hide bW;clear bW;go_enter func68,ntmps68;go_wp2_with fail;refine aFU ?_;rintro e gR ⟨rfl,k8⟩;rw[k8];clear k8 gR;go_wp2_with fail;rw[<-f6.out];exact(br).o):G:=h
def ztf (h:G:=by
  have Av:=hide h;have aJ:=h.c0;have E:=h.c1;have f1:=h.fz 1;obtain⟨k0,a9,bD,b8⟩:=h.toks;have aC:(i:Int)<(c.l.length:Int):=by have:=h.lt;omega
  have k3:=h.base.len;have a7:=h.SB;have ce:=h.base.tlt;have GE:c.P<w.heap.size+1:=LM;have J0:c.P<w.heap.size+1+1:=LM;have vv:c.tb<w.heap.size+1:=LM;have xY:c.tb<w.heap.size+1+1:=LM;have es:=hide (Q9 ((h.alloc (ab3 c)).alloc (ab4 d)));exact(br).o):G:=h
def ztg (h:G:=by
  have Kz:=Lu fH;have z':=hide ((hset (fs.heap.size+1) LM).trans yG);have Ay:Hid (Na w.heap.size wz (.slice qa F.length ds) F):=Ob (L8 (I:=λb=>w2.heap.size<=b) (λb D _=>hset b (by have E:w2.heap.size<=b:=D;omega)) (λb D=>(Me CV b D).2) CV) LM
  have mf:Hid (∀ k,k<w2.heap.size->k≠w.heap.size+1->wz.heap[k]? = w2.heap[k]?):=λk E O=>(hset k O).trans (mU.block k E);exact(br).o):G:=h
def zth (h:G:=by
  have fJ:LX w (w.alloc (.cells #[.pointer aQ,L9 true] 112)):=Qn;obtain⟨w2,bW⟩:∃ w2,w2=w.alloc (.cells #[.pointer aQ,L9 true] 112):=⟨_,rfl⟩;have bj:Hid (LX w w2):=by show Below _ _ _;rw[bW];exact Qn
  have cU:Hid (w2.heap[w.heap.size]? = some (NK #[.pointer aQ,L9 true] 112)):=by show _=_;rw[bW];exact LP _ _
  have f6:=hide bW;clear bW;go_enter func68,ntmps68;go_wp2_with fail;rw[<-f6.out];exact(br).o):G:=h
def zti (h:G:=by
  obtain⟨bq,u0,wm,gL,lL⟩:=bZ.opens;have iT:bq=fP.heap.size+1:=by simpa[LC] using gL.symm
  rw[iT] at lL;have bI:=hide lL;have iI:=hide cf;have jp:=hide cx;clear gL gg;obtain⟨d0,j2⟩:∃ d0,d0=(fP.alloc (.cells #[LC ku] 22)).alloc (MB 12 LH 0 (.slice (some (LD fP.heap.size 0)) 1 1)):=⟨_,rfl⟩;rw[<-j2] at bI iI jp;rw[<-iT] at bI;refine zlv ?_;clear j2 iT;exact(br).o):G:=h
def ztj (h:G:=by
  obtain⟨g,cap,k7,_,_⟩:=a7.1.form ee;subst k7;have bz:LX w (w.alloc (.cells #[.slice (some (LD g 0)) ps.length cap] 114)):=Qn;have ey:=lt_of_heap aO.num;have n0:w.cell? (LD aI 0)=some (.map (some aw)):=by rw[cell_of aO.num];rfl
  have nC:Hid (∀ X,LX w X->(Instr.lookup 44 (.map (some aw)) (LC a.p) false).run prog X=.ok (LJ (aL.length:Int)) X):=λX aB=>aO.look bv (Fm.of aB);exact(br).o):G:=h
def ztk (h:G:=by
  refine aFW ?_;refine UK 5 λK U=>?_;go_simp;refine aFX ?_;rintro e fY ⟨rfl,jU⟩;have et:=hide (cO.out.drew.later jU);have kD:=hide (fG.out.next (Ap.of (O4.drew.trans jU)));refine azm ?_;clear U K;exact(br).o):G:=h
def ztl (h:G:=by
  go_enter func219,ntmps219
  go_wp2
  refine zln ?_;refine wt 1 (LQ s) ?_;refine wt 2 (.int .u8 (s[0].toNat:Int)) ?_;refine O7 0 λK U=>?_;go_simp;refine atD ?_;rintro e w1 ⟨x,rfl,⟨f1,c1,rfl,F4,n6⟩,bz⟩;refine U _ _ ?_;clear U K;refine O7 3 λK U=>?_;go_simp;refine cm (n6 w1 O4 _) ?_;rw[cQ.out];rintro e w2 ⟨rfl,rfl⟩;have ba:=hide bz;clear n6;refine U _ _ ?_;clear U K;exact(br).o):G:=h
def ztm (h:G:=by
  have g4:w1.heap[w.heap.size+1]? = some (NK #[Pe,L9 false] 112):=by rw[c9];exact y1
  have en:=Md fJ.drew c3;have jA:=Md fJ.drew ct;have bT:=Md fJ.drew d1;have p5:=hide c9;have rx:=hide fO;have k0:=Md bz c0;have a9:=Md bz c1;have b8:=Md bz bO;have gP:w1.cell? (LD w.heap.size 0)=some (.pointer aQ):=by rw[cell_of cv];rfl
  exact(br).o):G:=h
def ztn (h:G:=by
  have tC:decide ((30:Int)<(d:Int))=false:=decide_eq_false LM;have jm:¬ fx c.l i=Nc:=by rw[an];decide
  exact(br).o):G:=h
def zto (h:G:=by
  go_wp2_with (at_builtin;refine wpList_append_lies _ rfl _ _ 46 rfl (b+1) 22 a6 Pe 1 8 underlying46 b4 bL bM bP rfl MK _ _ _ rfl (bb.out.alloc _) (LD w.heap.size 0) 1 1 [LC p] rfl rfl (OT w p _ rfl) (one_one p) MK (by unfold maxLen;omega) LM OM (w.heap.size+1) MP ?_)
  intro dJ cap' aq hown' hgrow fX _;have BJ:Ap b (b+1) w aq:=aFY
  exact(br).o):G:=h
def ztp (h:G:=by
  unfold tkV at ag;go_wp2_with fail;refine NJ ?_;rintro e wt ⟨rfl,rW⟩;have oA:=hide (pG.out.next (Ap.of rW));have nM:=hide (oN.out.later rW);have ee:=(rW.block aj.heap.size MP).trans kN.out;obtain⟨k0,a9,bD,b8,pq,KF⟩:=c160 ee;have eU:=nM.out.c1;have rY:=nM.out.fz;have ed:=nM.out.SB;clear ee;exact(br).o):G:=h
def ztq (h:G:=by
  have cG:=hide he;clear he;go_enter func159,ntmps159;go_wp2_with fail;refine(Y7 _).mono ?_;rintro aW w1 ⟨x,rfl,af,hbel⟩;obtain⟨am,an⟩:=XC hbel;have cZ:=hide hbel;have cy:=hide af;go_wp2_with fail;have hpast:=WZ s k x Nl w1 (by unfold maxLen;omega) LM cy.out
  rw[cG.out] at hpast;refine hpast.mono ?_;exact(br).o):G:=h
def ztr (h:G:=by
  clear h;go_enter func170,ntmps170;have ag:=hide (NR c Uu w i d cO.out MK);rw[aA] at ag;go_wp2_with fail;refine NJ ?_;intro e ni ae;obtain⟨⟨va,rfl,rfl⟩,aY,aa⟩:=ae;have E1:=hide aY;have wD:=hide (fG.out.next aa);have ag:=hide (QA ai aN ni d a6 _ rfl (by rw[D];nofun) E1.out)
  rw[D] at ag;exact(br).o):G:=h
def zts (h:G:=by
  refine azn ?_;clear U K;refine UK 5 λK U=>?_;go_simp;refine cm (dQ.out _ (Lu rn)) ?_;rintro e w1 ⟨rfl,D⟩;obtain⟨g4,g0,bq,ep⟩:=atT cO.out D;obtain⟨lV,e8,lW,ui,j5,SB⟩:=c160 ep;have cd:=hide g4;have eu:=hide g0;have p':=hide bq;have rz:=hide ep;clear bq ep;exact(br).o):G:=h
def ztt (h:G:=by
  rw[aM] at ag;go_wp2_with fail;refine NJ ?_;intro e iZ ae;obtain⟨⟨Ll,rfl,rfl⟩,aY,aa⟩:=ae;have E3:=hide aY;have pF:=hide (zR.out.next aa);replace bI:=hide (Open.later bI.out (aa) a1.out);have q8:=hide (QA ai aN iZ.drew d gi _ rfl (by rw[bw];nofun) E3.out.drew)
  rw[bw] at q8;exact(br).o):G:=h
def ztu (h:G:=by
  have bo:=hide T;have cQ:=hide ab;clear T ab;go_enter func100,ntmps100;go_wp2_with fail;refine atD ?_;rintro aW w1 ⟨x,rfl,⟨f1,c1,rfl,F4,n6⟩,hbel⟩;have D2:=hide (n6 w1 O4);have cZ:=hide hbel;clear n6;go_wp2_with fail;refine aFZ ?_;rintro a4 w2 ⟨rfl,rfl⟩;go_wp2_with fail;exact(br).o):G:=h
def ztv (h:G:=by
  go_enter func70,ntmps70;go_wp2_with fail;obtain⟨w1,c9⟩:∃ w1,w1=w.alloc (.cells #[.slice (some (LD g 0)) ps.length cap] 114):=⟨_,rfl⟩;have hB:w1.heap[w.heap.size]? = some (NK #[.slice (some (LD g 0)) ps.length cap] 114):=by rw[c9];exact LP _ _
  rw[<-c9] at bz ⊢;exact(br).o):G:=h
def ztw (h:G:=by
  refine wg 6 (.tuple #[.nilFunc,L9 false]) rfl (Or.inl ⟨by kernel_rfl,λL aO=>by have a2:=cQ.out L aO;go_simp⟩) et.out ?_
  refine zlc ?_;exact(br).o):G:=h
def ztx (h:G:=by
  refine aqu ?_;refine uh 6 (Mc p 1) aE ?_;refine uc 7 (LQ tx) rfl (Or.inl ⟨by kernel_rfl,λX aB=>by have aJ:=Md aB ka.out;go_simp⟩) aE ?_
  refine Qh 8 λK U=>?_;go_simp;have cP:LX w1 (wd.alloc (.cells #[LQ tx] 9)):=aE.alloc aE.size _;have eB:=ba.out.size;exact(br).o):G:=h
def zty (h:G:=by
  have ag:=hide (RD c Qv d0 az d iI.out am MK);go_wp2_with fail;refine NJ ?_;rintro e ax ⟨rfl,aY,aa⟩;have fi:=hide aY;have dh:=hide (jp.out.next aa);replace bI:=hide (Open.later bI.out (aa) a1.out);have ag:=hide (NR c NZ ax (az+1) d fi.out MK);exact(br).o):G:=h
def ztz (h:G:=by
  have ag:=hide (acT bN.out _ d (i+1) _ aD T.symm (by nofun) e3.out.ps);rw[T] at aG;exact(br).o):G:=h
def azo (h:G:=by
  go_wp2_with fail;refine aF1 ?_;refine alv ?_;refine wg 0 (Mc (w1.heap.size+1) 0) rfl (Or.inl ⟨by kernel_rfl,λL aO=>by cases aO;go_simp⟩) rfl ?_
  refine UK 1 λK U=>?_;go_simp;refine zlw ?_;rintro e w2 ⟨rfl,rfl⟩;refine U _ _ rfl (λ_=>?_);clear U K;exact(br).o):G:=h
def aqv (h:G:=by
  obtain⟨c0,c1,c2,c3,dx⟩:=node_cells aI;have h4:=dx 3;have ey:=lt_of_heap aI;exact(br).o):G:=h
def azp (h:G:=by
  rw[ao] at ag;go_wp2_with fail;refine NJ ?_;intro e dA ae;obtain⟨⟨Lk,rfl,rfl⟩,aY,aa⟩:=ae;have E2:=hide aY;have zR:=hide (i2.out.next aa);replace bI:=hide (Open.later bI.out (aa) a1.out);have ag:=hide (NR c OX dA ca d E2.out MK);exact(br).o):G:=h
def azq (h:G:=by
  clear aJ E k0 a9 bD b8;have b9:=hide (OZ c w1 i MI MK Aj.out cD.out);go_wp2_with fail;refine Ul ?_;rintro e w2 ⟨rfl,a5⟩;have cU:=hide (cD.out.later a5);have bR:=hide (b7.out.next (Ap.of a5));have bj:=hide (ba.out.ap (Ap.of a5));exact(br).o):G:=h
def azr (h:G:=by
  have aV:Hid (Below w.heap.size cs ((cs.setCell (LD w.heap.size 3) (.slice (some (LD cs.heap.size 0)) 1 1)).alloc (.cells #[LC q] 22))):=((Below.refl w.heap.size cs).setCell (p:=(LD w.heap.size 3)) Nh _).alloc OM _;have bS:=hide (bv.trans (Ap.of aV.out));exact(br).o):G:=h
def azs (h:G:=by
  rw[O] at ag;go_wp2_with fail;refine NJ ?_;intro e wd ae;obtain⟨⟨Lj,rfl,rfl⟩,aY,aa⟩:=ae;have md:=hide aY;have i2:=hide (dh.out.next aa);replace bI:=hide (Open.later bI.out (aa) a1.out);have ag:=hide (name_any c wd aX d md.out);exact(br).o):G:=h
def azt (h:G:=by
  have ag:=hide (Sr c Qv d0 az d iI.out am);go_wp2_with fail;refine NJ ?_;rintro e ax ⟨rfl,D⟩;have fi:=hide (iI.out.later D);have dh:=hide (jp.out.next (Ap.of D));replace bI:=hide (Open.later bI.out (Ap.of D) a1.out);clear D;exact(br).o):G:=h
def atU (h:G:=by
  go_enter func297,ntmps297;go_wp2_with fail;refine zlw ?_;rintro e w1 ⟨rfl,rfl⟩;go_wp2_with fail
  go_region
  go_wp2_with fail;exact(br).o):G:=h
def azu (h:G:=by
  have ld:bn.cell? (LD w.heap.size 0)=some (.slice (some (LD g 0)) ps.length cap):=by rw[cell_of o4];rfl
  have l0:=Ny o4 0;have oy:=lt_of_heap o4;have hJ:=hide dK;have ry:=hide o4;have nx:=hide mR;exact(br).o):G:=h
def azv (h:G:=by
  refine ad2 ?_;clear U K;obtain⟨fn,de⟩:∃ fn,fn=wd.heap.size:=⟨_,rfl⟩;obtain⟨dA,iV⟩:∃ dA,dA=wd.alloc (.cells #[LQ tx] 9):=⟨_,rfl⟩;rw[<-iV] at cP ip ⊢;rw[<-de] at ip ⊢;exact(br).o):G:=h
def atV (h:G:=by
  have ag:=hide am;go_wp2_with fail;refine NJ ?_;rintro e bn ⟨rfl,D⟩;have nP:=hide (nO.out.below D);exact(br).o):G:=h
def azw (h:G:=by
  refine uh 2 (LC p) aE ?_;refine uc 3 (LJ (aL.length:Int)) rfl (Or.inl ⟨by kernel_rfl,λX aB=>by have aJ:=Lu nC X (ba.out.trans (aB.mono ba.out.size));go_simp⟩) aE ?_
  refine uh 4 (LC p) aE ?_;exact(br).o):G:=h
def atW (h:G:=by
  have fj:Hid (w2.cell? (LD w.heap.size 0)=some (.pointer aQ)):=by show _=_;rw[cell_of cU.out];rfl
  exact(br).o):G:=h
def azx (h:G:=by
  refine aqw ?_;clear U K;refine wg 6 (.tuple #[.agg #[LQ x.tx,LJ x.kd,LJ x.parts,LJ x.str],L9 true]) rfl (Or.inl ⟨by kernel_rfl,λL aO=>by have a2:=cQ.out L aO;go_simp⟩) cd.out ?_
  refine zlg ?_;exact(br).o):G:=h
def azy (h:G:=by
  clear h;go_enter func311,ntmps311;go_wp2_with fail;refine zle ?_;refine zls ?_;refine wg 3 (.map (some c.mV)) rfl (Or.inl ⟨by kernel_rfl,λL aO=>by have a2:=Ol.c5 aO;go_simp⟩) cO.out.drew ?_
  exact(br).o):G:=h
def azz (h:G:=by
  have hJ:Hid (KV w.heap.size bn (au++[t]) (.slice (some (LD g 0)) (au.length+1) cap)):=ajQ hr.out (by rw[List.map_append];exact hown') (by simp[HLEN.out]) hgrow hg
  exact(br).o):G:=h
def azA (h:G:=by
  obtain⟨w1,c9⟩:∃ w1,w1=dY.drew:=⟨_,rfl⟩;have bz:LX w w1:=by rw[c9];exact fJ.drew
  have eB:w1.heap.size=w.heap.size+2:=by rw[c9];exact tV
  exact(br).o):G:=h
def azB (h:G:=by
  go_enter func312,ntmps312;have ag:=hide (QC c w i d cO.out);unfold tkV at ag;have fC:=ad3 (MJ c.l i);go_wp2_with fail;refine NJ ?_;rintro e wt ⟨rfl,dL⟩;exact(br).o):G:=h
def azC (h:G:=by
  refine aF2 ?_;refine ug 10 (LQ tx) rfl (Or.inl ⟨by kernel_rfl,λX aB=>by have aJ:=Md aB b9.out;go_simp⟩) aE ?_
  refine Qh 11 λK U=>?_;go_simp;exact(br).o):G:=h
def azD (h:G:=by
  have pG:=hide (mE.out.alloc mE.out.size (.cells #[U7,LJ 0,LJ 0,LJ 0] 189));have oN:=hide (j'.out.alloc (.cells #[U7,LJ 0,LJ 0,LJ 0] 189));exact(br).o):G:=h
def azE (h:G:=by
  refine cm nJ.out ?_;rintro e bn ⟨⟨b0,rfl,gN⟩,ec⟩;have dK:LX w1 bn:=cP.trans (ec.mono cP.size);have mR:=Na.later ip ec;exact(br).o):G:=h
def azF (h:G:=by
  have ag:=hide (OG c cM i Uu MK an jy.out.ps);go_wp2_with fail;refine NJ ?_;rintro e jo ⟨rfl,ae,aa⟩;have lq:=hide (jy.out.on a1.out ae aa);exact(br).o):G:=h
def azG (h:G:=by
  have lb:=Ny cv;have pd:p≠w.heap.size:=LM;have r8:cn≠w.heap.size:=LM;have vX:p<w1.heap.size:=LM;have CR:cn<w1.heap.size:=LM;have Df:w.heap.size<w1.heap.size:=LM;have ba:=hide bz;have f':=hide eB;have cD:=hide cv;have cd:=hide g4;exact(A).o):G:=h
def aqx (h:G:=by
  have h2:=hide hown';clear fX;go_wp2_with fail;exact(A).o):G:=h
def azH (h:G:=by
  obtain⟨a6,b4,bL,bM,bP⟩:=info_parts info22;have e3:=hide (lq.out.kind dl.out 12);have jC:c.P<w.heap.size:=Lu a1;have aI:=lq.out.nd;exact(A).o):G:=h
def atX (h:G:=by
  intro g cap aq hown3 dD dc _;refine U _ _ ?_;clear U K;exact(A).o):G:=h
def azI (h:G:=by
  have hY:=hide kY;have nz:=hide hlet;have oH:=hide hdig;have e4:=hide av;clear av;clear kY hlet hdig aY;exact(A).o):G:=h
def zsa (h:G:=by
  obtain⟨a6,b4,bL,bM,bP⟩:=info_parts info9;have k':y ∈ a.ks:=by rw[bd];simp
  obtain⟨_,dq,c0,c1,_⟩:=aa.cells;obtain⟨dn,cap2,c3,n7,_,aW,Ct⟩:=aa.anw bd;have i7:w.cell? (LD a.p 3)=some (.slice (some (LD dn 0)) 2 cap2):=c3;clear c3;have hy:=aa.parts y k';obtain⟨_,zh,_,_,kv,y3,hrow⟩:=hy.cells;obtain⟨dj,cY,e7⟩:=NH hrow.1;rw[List.length_map] at e7;subst e7;rw[fD] at c0;have br{G}(h:G:=by
  have hcnt:=OA a;rw[bd,Ad.cnts,Ad.cnts,Ad.cnts] at hcnt;have yo:=OA y;have y':=y.ND;have h9:=a.ND;have v4:=x.ND;have hfun:MF a.tr=true:=by unfold MF;rw[a.NC.1,fD];rfl
  have hlat:∀ (z:Ad) (X:LK),MZ I w z->LX w X->VA X z.tr z.p:=λz X b5 aB=>Nj.nt (Nj.later (λb _ ab=>aB.block b ab) _ _ b5.nat);have rf:Hid (∀ X,LX w X->MC 55 #[LC a.p] X λe w'=>e=MN (L9 true)/\w'=X):=λX aB=>aF3
  have dm:Hid (∀ X,LX w X->MC 64 #[LC y.p] X λe w'=>e=MN (L9 (decide (y.tr.tx=Nq)))/\w'=X):=λX aB=>ZF y.tr y.p X (hlat y X hy aB);have i3:Hid (∀ X,LX w X->∀ k (N:k<y.ks.length),MC 29 #[LC (y.ks[k]).p] X λe w'=>e=MN (L9 (Yo (y.ks[k]).tr))/\w'=X):=λX aB k N=>aF4
  have qq:a.tr.kids=[x.tr,y.tr]:=by rw[a.NC.2.2,bd];rfl
  have Au:Hid (∀ X,LX w X->MC 56 #[LC a.p] X λe w'=>(∃ u,e=MN u/\Na X.heap.size w' u (NI (x.tr.kids.map Tr.tx)))/\LX X w'):=λX aB=>aF5
  have jw:Hid (∀ X,LX w X->MC 54 #[LC y.p,L9 true] X λe w'=>(∃ u,e=MN u/\Na X.heap.size w' u (namesT y.tr true))/\LX X w'):=λX aB=>VZ y.tr y.p true X (hlat y X hy aB) LM;have wW:Hid (∀ k (N:k<y.ks.length),∃ g,dj=some (LD g 0)/\g<w.heap.size/\w.cell? (LD g k)=some (LC (y.ks[k]).p)):=λk N=>aF6
  have z0:Hid ((y.ks.any λk=>Yo k.tr)=VT y.tr.kids):=by
   refine aF7 ?_;rfl
  have e4:Hid ((NI (x.tr.kids.map Tr.tx)).length<=19999/\(namesT y.tr true).length<=70000/\ps.length<=20000):=aF8
  exact(A).o):=LG h;exact ztj):G:=h
def zsb (h:G:=by
  have br{G}(h:G:=by
  rw[decide_eq_false jI] at am;have br{G}(h:G:=by
  have am:=NP c bn i QU MK nP.out.ps;rw[decide_eq_false iz] at am;have ag:=hide am;go_wp2_with fail;refine NJ ?_;rintro e cM ⟨rfl,D⟩;have jy:=hide (nP.out.below D);exact(A).o):=LG h;exact atV):=LG h;exact zta):G:=h
def zsc (h:G:=by
  have br{G}(h:G:=by
  exact(A).o):=LG h;exact zta):G:=h
def zsd (h:G:=by
  obtain⟨sh,b4,bL,bM,bP⟩:=info_parts info22;have cO:=hide h;have fG:=hide (Ap.refl c.R w.heap.size w);have a1:=hide h.SB;have br{G}(h:G:=by
  go_wp2_with fail;refine NJ ?_;intro e fP ae;obtain⟨⟨ss,rfl,ge⟩,aY,aa⟩:=ae;have nL:=hide aY;have q1:=hide (wD.out.next aa);obtain⟨ku,rfl,lJ⟩:=(EV.mono ge wD.out.size).nv;have EJ:=hide lJ;have ag:=hide (Oi 12 LH (.slice (some (LD fP.heap.size 0)) 1 1) (fP.alloc (.cells #[LC ku] 22)) ⟨_,_,_,rfl⟩);go_wp2_with fail;refine NJ ?_;rintro e zJ ⟨rfl,rfl⟩;obtain⟨bZ,cf,cx⟩:=made nL.out q1.out (LU.cons EJ.out LU.nil) (by simp[maxLen]) #[LC ku] rfl 1 rfl 12 LH (fP.heap.size+1) rfl
  obtain⟨cg,gg⟩:∃ cg:Tr,cg=.mk 12 LH 0 [b]:=⟨_,rfl⟩;rw[<-gg] at bZ;have fv:Hid (cg.kids.length=1):=by
   show _=_
   rw[gg];rfl
  exact(A).o):=LG h;exact ztr):G:=h
def zse (h:G:=by
  have br{G}(h:G:=by
  have dm:=hide bB;have AN:=hide eC;have jw:=hide ix;have i3:=hide lH;obtain⟨dY,fO⟩:∃ dY,dY=(w.alloc (.cells #[.pointer aQ,L9 false] 112)).alloc (.cells #[Pe,L9 false] 112):=⟨_,rfl⟩;have fJ:LX w dY:=by rw[fO];exact Qn.alloc MP _
  have tV:dY.heap.size=w.heap.size+2:=by rw[fO];simp
  have qG:dY.heap[w.heap.size]? = some (NK #[.pointer aQ,L9 false] 112):=by
   rw[fO,Below.heap_alloc _ _ _ MP];exact LP _ _
  have y1:dY.heap[w.heap.size+1]? = some (NK #[Pe,L9 false] 112):=aF9
  have br{G}(h:G:=by
  have cv:w1.heap[w.heap.size]? = some (NK #[.pointer aQ,L9 false] 112):=by rw[c9];exact qG
  have br{G}(h:G:=by
  have iX:w1.cell? (LD w.heap.size 1)=some (L9 false):=by rw[cell_of cv];rfl
  exact azG):=LG h;exact ztm):=LG h;exact azA):=LG h;exact ztb):G:=h
def zsf (h:G:=by
  refine zlq ?_;obtain⟨a6,ak,bL,bM,bP⟩:=info_parts anZ;have cF:=Qa O8 s j aC iS;rw[cF] at he;have cG:=hide he;have CH:=iS;simp only[O8,Bool.or_eq_false_iff] at CH;obtain⟨fc,dn⟩:=CH;have eE:=hide hinv;obtain⟨kw,kx,nf,ng⟩:=hinv.cells;exact(A).o):G:=h
def zsg (h:G:=by
  have br{G}(h:G:=by
  have br{G}(h:G:=by
  have br{G}(h:G:=by
  have ag:=hide (UU c 0 fY i d et.out);rw[go.out] at ag;simp only[ad4,aiq,Option.isSome] at ag;go_wp2_with fail;refine NJ ?_;rintro e aj ⟨rfl,jV⟩;have mE:=hide (kD.out.next (Ap.of jV));have j':=hide (et.out.later jV);have br{G}(h:G:=by
  have ph:(aj.alloc (.cells #[U7,LJ 0,LJ 0,LJ 0] 189)).heap[aj.heap.size]? = some (.cells #[U7,LJ 0,LJ 0,LJ 0] 189):=LP _ _;have kN:=hide ph;clear ph;have ag:=hide (QC c (aj.alloc (.cells #[U7,LJ 0,LJ 0,LJ 0] 189)) i d oN.out);have br{G}(h:G:=by
  exact(A).o):=LG h;exact ztp):=LG h;exact azD):=LG h;exact ztw):=LG h;exact ztk):=LG h;exact azy):G:=h
def zsh (h:G:=by
  refine aGa ?_;have E7:=hide C1;clear iV C1;have aE:Fm (λb=>(I b\/(w.heap.size<=b/\b<wd.heap.size))\/b=tb) wd dA:=Fm.of BP;have iU:=lt_of_heap eh.out;have ht:Hid (∀ X,Fm (λb=>(I b\/(w.heap.size<=b/\b<wd.heap.size))\/b=tb) wd X->X.cell? (LD tb 0)=some (.map (some aw))):=λX aB=>by rw[aB.cell (Or.inr rfl) (lt_of_heap eh.out),cell_of eh.out];rfl
  have ka:Hid (∀ X,Fm (λb=>(I b\/(w.heap.size<=b/\b<wd.heap.size))\/b=tb) wd X->X.cell? (LD tb 1)=some (.slice va ah.length ck)):=λX aB=>by rw[aB.cell (Or.inr rfl) (lt_of_heap eh.out),cell_of eh.out];rfl
  have EI:Hid (∀ X,Fm (λb=>(I b\/(w.heap.size<=b/\b<wd.heap.size))\/b=tb) wd X->(Instr.lookup 44 (.map (some aw)) (LC p) false).run prog X=.ok (LJ (no:Int)) X):=λX aB=>Lu nC X ((Fm.of hX.out).trans (aB.less λb D=>Or.inl (Or.inl D)));refine uh 0 (MX tb) aE ?_;refine uh 1 (MX tb) aE ?_;refine uh 2 (MX tb) aE ?_;refine uh 3 (Mc tb 1) aE ?_;refine ug 4 (.slice va ah.length ck) rfl (Or.inl ⟨by kernel_rfl,λX aB=>by have aJ:=Lu ka X aB;go_simp⟩) aE ?_
  refine uh 5 (MX tb) aE ?_;refine uh 6 (MX tb) aE ?_;refine uh 7 (Mc tb 0) aE ?_;refine ug 8 (.map (some aw)) rfl (Or.inl ⟨by kernel_rfl,λX aB=>by have aJ:=Lu ht X aB;go_simp⟩) aE ?_
  refine uh 9 (LC p) aE ?_;refine ug 10 (LJ (no:Int)) rfl (Or.inl ⟨by kernel_rfl,λX aB=>by have aJ:=Lu EI X aB;go_simp⟩) aE ?_
  refine uh 11 (LJ hH) aE ?_;refine uh 12 (L9 fg) aE ?_;refine uh 13 (.agg #[LJ (no:Int),LJ hH,L9 fg]) aE ?_;refine Qh 14 λK U=>?_;go_simp;have n2:LX wd (dA.alloc (.cells #[LJ (no:Int),LJ hH,L9 fg] 56)):=BP.alloc (by have:=Lu E7;omega) _
  refine U.out _ _ (λ_=>Fm.of n2) ?_;clear U K;refine Qh 15 λK U=>?_;have hrow2:(dA.alloc (.cells #[LJ (no:Int),LJ hH,L9 fg] 56)).ownsRow 0 56 3 (.slice va ah.length ck) ah.length (Ph ah):=L8 (I:=λ_=>True) (λb _ ab=>n2.block b ab) (λ_ _=>trivial) fa.out
  refine step_append_lies _ rfl _ _ 50 rfl 0 56 a6 (.agg #[LJ 0,LJ 0,L9 false]) 3 24 underlying50 b4 bL bM bP rfl MK _ _ _ rfl hrow2 (LD dA.heap.size 0) 1 1 (usC ((no:Int),hH,fg)) rfl rfl (aaZ dA no hH fg 56 _ rfl) (air _) MK (by unfold maxLen;omega) LM (Nat.zero_le _) (dA.heap.size+1) MP ?_
  intro iM cap4 bh hown4 jY r0 _;obtain⟨cT,zd⟩:∃ cT,cT=dA.alloc (.cells #[LJ (no:Int),LJ hH,L9 fg] 56):=⟨_,rfl⟩;rw[<-zd] at n2 hrow2 jY;have HK:cT.heap.size=dA.heap.size+1:=by rw[zd];simp
  have vx:TW (λb=>I b\/(w.heap.size<=b/\b<wd.heap.size)) tb aw aK ah cT:=jL.out.later n2;have k7:cT.heap[tb]? = some (NK #[.map (some aw),.slice va ah.length ck] 108):=by rw[n2.block tb iU];exact Lu eh
  have fT:=vx.push (u:=((no:Int),hH,fg)) k7 rfl (by rw[WQ];exact hown4) jY (r0.imp id λe=>by omega)
  have fp:∀ b,(I b\/(w.heap.size<=b/\b<wd.heap.size))\/b=tb->b<cT.heap.size/\(Value.slice va ah.length ck).ownBlock≠some b:=aFF
  have fe:Fm (λb=>(I b\/(w.heap.size<=b/\b<wd.heap.size))\/b=tb) wd bh:=(Fm.of n2).trans ⟨jY.os,jY.tape,jY.output,jY.size,λb D ab=>jY.block b ab (λe=>(fp b D).2 e.symm)⟩;have wv:=Lu ka bh fe;have y9:bh.heap[tb]? = some (NK #[.map (some aw),.slice va ah.length ck] 108):=(fe.stay tb (Or.inr rfl) iU).trans eh.out;have l0:=Ny y9;have oy:=lt_of_heap y9;refine ah9 ?_;clear U K r0;refine uh 16 (MX tb) fe ?_;refine uh 17 (Mc tb 1) fe ?_;refine Qh 18 λK U=>?_;go_simp;refine zlm ?_;clear U K
  refine UW Nw ?_ _;obtain⟨bn,se⟩:∃ bn,bn=bh.setCell (LD tb 1) (.slice (some (LD iM 0)) (ah.length+1) cap4):=⟨_,rfl⟩;rw[<-se] at fT;obtain⟨GG,tm⟩:=fT;have tn:Fm (λb=>I b\/(w.heap.size<=b/\b<wd.heap.size)) wd bn:=(Fm.of n2).trans (tm.less λb D=>⟨(fp b (Or.inl D)).1,(vx.ne b D).2,(fp b (Or.inl D)).2⟩);have E':=hide (GG.less eu.out (λb D=>Or.inl D));have wP:Hid (Fm I w bn):=(Fm.of hX.out).trans (tn.less λb D=>Or.inl D);have lM:=uU.out.2
  have fj:Hid (bn.cell? (LD w.heap.size 0)=some (.pointer aQ)):=(tn.cell (Or.inr uU.out) lM).trans (Lu Fs);exact(A).o):G:=h
def zsi (h:G:=by
  have br{G}(h:G:=by
  clear c9;have k0:=Md bz c0;have a9:=Md bz c1;have b8:=Md bz i7;have sl:=Md bz aW;have pt:=Md bz y3;have iu:=cell_lt k0;have Ke:=cell_lt sl;have yJ:=cell_lt pt;have sS:Hid (w1.cell? (LD aI 0)=some (.map (some aw))):=Md bz n0;have mI:Hid (w1.cell? (LD w.heap.size 0)=some (.slice (some (LD g 0)) ps.length cap)):=by show _=_;rw[cell_of hB];rfl
  have ba:=hide bz;have eW:=hide hB;clear hB c0 c1 i7 aW y3 n0;refine aGb ?_;rintro e w2 ⟨rfl,bW⟩;obtain rfl:w1=w2:=bW.symm;clear bW;exact(A).o):=LG h;exact ztv):G:=h
def zsj (h:G:=by
  have mJ:Hid (w2.cell? (LD tb 0)=some (.map (some aw))):=Md bj.out ht.out;have dV:=Lu dw;refine cm (Lu AN _ bj.out) ?_;rintro e aq ⟨⟨u3,rfl,d6⟩,bx⟩;obtain⟨en,c3,rfl⟩:=LZ d6;have f5:=hide d6;have bV:=hide bx;have wa:=bx.size
  go_wp2_with (at_builtin;refine wpList_append_lies _ rfl _ _ 38 rfl w2.heap.size 9 a6 (LQ ByteArray.empty) 1 16 underlying38 b4 bL bM bP rfl MK _ _ _ rfl (f5.out.alloc _) (LD aq.heap.size 0) 1 1 [LQ Nr] rfl rfl (Vy aq Nr _ rfl) (YS Nr) MK (by unfold maxLen;omega) LM OM (aq.heap.size+1) MP ?_)
  intro iM cap4 bh hown4 jY _ _;have mH:Hid (Na w2.heap.size bh (.slice (some (LD iM 0)) (P.length+1) cap4) M):=aGc
  have fK:Hid (LX w2 bh):=bV.out.trans (((Below.refl w2.heap.size aq).alloc wa _).grown jY OM (λb D=>(Me f5.out b D).2));clear wa;go_wp2_with fail;have aE:LX w2 bh.drew:=fK.out.drew;have gM:Na w2.heap.size bh.drew (.slice (some (LD iM 0)) (P.length+1) cap4) M:=Lu mH;obtain⟨bn,se⟩:∃ bn,bn=bh.drew:=⟨_,rfl⟩;refine MR 20 (λX=>LX w2 X) Nw ?_;rw[<-se] at aE gM ⊢;clear se;exact(A).o):G:=h
def zsk (h:G:=by
  refine uc 1 (.map (some aw)) rfl (Or.inl ⟨by kernel_rfl,λX aB=>by have aJ:=Md aB sS.out;go_simp⟩) aE ?_
  have br{G}(h:G:=by
  have br{G}(h:G:=by
  have j3:w.heap.size<w1.heap.size:=lt_of_heap eW.out;have ip:Na w1.heap.size (wd.alloc (.cells #[LQ tx] 9)) (.slice (some (LD wd.heap.size 0)) 1 1) [tx]:=⟨rfl,Or.inr ⟨wd.heap.size,1,#[LQ tx],rfl,aE.size,LP _ _,Nh,by decide,rfl,rfl⟩⟩;have br{G}(h:G:=by
  clear de iV;refine azJ ?_;have nJ:=hide (put_any (aL.length:Int) (some (LD fn 0)) 1 1 false _ ps.length (rgCells ps) w.heap.size dA (Md cP mI.out) (L8 (I:=λ_=>True) (λb _ ab=>(ba.out.trans (cP.mono ba.out.size)).block b ab) (λ_ _=>trivial) dv.out.1) ee LM dv.out.ones);refine Qh 10 λK U=>?_;have br{G}(h:G:=by
  obtain⟨va,ck,rfl⟩:=LZ gN;refine an0 ?_;have o4:=(dK.block _ (lt_of_heap eW.out)).trans eW.out;have br{G}(h:G:=by
  have gX:=hide gN;have nN:=hide cP;clear U K o4;refine Qh 11 λK U=>?_;go_simp;refine zlm ?_;clear U K;refine UW Nw ?_ _;obtain⟨cN,lP⟩:∃ wz,wz=bn.setCell (LD w.heap.size 0) (.slice va (ps.length+1) ck):=⟨_,rfl⟩;have hset:∀ b,b≠w.heap.size->cN.heap[b]? = bn.heap[b]?:=λb D=>by rw[lP];exact Qu D _
  have HN:cN.heap.size=bn.heap.size:=by rw[lP];simp
  have hq:Hid (LX w cN):=by
   show Below _ _ _
   rw[lP];exact ayD
  have hkeep:∀ {b o:Nat} {u:LY},w1.cell? (LD b o)=some u->b≠w.heap.size->cN.cell? (LD b o)=some u:=fun {b o u} h D=>by
   rw[World.cell?_of_block (w:=bn) (a:=(LD b o)) (hset b D)];exact Md hJ.out h
  have yl:cN.heap[w.heap.size]? = some (NK #[.slice va (ps.length+1) ck] 114):=by rw[lP,heap_set ry.out];rfl
  obtain⟨f9,hps1⟩:∃ q:List (LY × Sc),q=ps++[(.slice (some (LD fn 0)) 1 1,⟨aL.length,[tx],false⟩)]:=⟨_,rfl⟩;have H2:=(Lu nN).size;have H1:=hJ.out.size;have p0:Hid (RR (λb=>I b\/(w.heap.size<b/\b<cN.heap.size)) cN (.slice va (ps.length+1) ck) f9):=aGd
  have kI:Hid (0<f9.length/\f9.length<=ps.length+1):=by rw[hps1];exact⟨by simp,by simp⟩
  have oG:Hid ((f9.map Prod.snd).reverse=if ((37:Int)==37 && !decide (tx=LH))=true then ⟨aL.length,[tx],false⟩::(ps.map Prod.snd).reverse else (ps.map Prod.snd).reverse):=by
   show _=_
   rw[hps1];simp[eC]
  have Ko:aI<w.heap.size:=ey;replace b8:=hkeep b8 LM;replace sl:=hkeep sl LM;exact(A).o):=LG h;exact azu):=LG h;go_simp;exact azE):=LG h;exact azv):=LG h;exact ztx):=LG h;exact azw):G:=h
def zsl (h:G:=by
  have ag:=hide (PL bN.out e4.out hr.out false _ d (i+1) _ aD d9.symm (by nofun) e3.out.ps);clear d9;go_wp2_with fail;refine NJ ?_;rintro e cs ⟨⟨v,rfl,q,rfl,av⟩,bE,cI⟩;have aI:=(cI.block _ (lt_of_heap e3.out.nd) (by have:=Lu a1;omega)).trans e3.out.nd
  clear c0 c1 c2 c3 dx lx h4 ey;have br{G}(h:G:=by
  have bv:=e3.out.ap.next cI;have br{G}(h:G:=by
  have bk:=hide (bE.ap aV.out dl.out);have bI:Hid (Open w.heap.size ((cs.setCell (LD w.heap.size 3) (.slice (some (LD cs.heap.size 0)) 1 1)).alloc (.cells #[LC q] 22)) (.mk 12 LH 0 [b]) w.heap.size (.slice (some (LD cs.heap.size 0)) 1 1) [q]):=ajR Nh (lt_of_heap e3.out.nd) (set1 cs w.heap.size _) MP cI.size (by rw[heap_set aI];rfl) (LU.cons av LU.nil) rfl #[LC q] rfl (by simp[maxLen])
  clear aI;have af:=dZ;exact(A).o):=LG h;exact azr):=LG h;exact aqv):G:=h
def zsm (h:G:=by
  have kN:=hide (Stn.new h);have am:=NP c (w.alloc nd0) i Nc MK kN.out.ps;rw[decide_eq_false jm] at am;have ag:=hide am;clear h;go_enter func111,ntmps111;go_wp2_with fail;refine NJ ?_;rintro e w1 ⟨rfl,D⟩;have f':=hide (kN.out.below D);exact(A).o):G:=h
def zsn (h:G:=by
  have br{G}(h:G:=by
  have br{G}(h:G:=by
  have br{G}(h:G:=by
  have br{G}(h:G:=by
  have br{G}(h:G:=by
  obtain⟨gu,ja,ed⟩:=bI.out.cell;obtain⟨eq,uc,ji⟩:=bI.out.shape;subst ji;go_wp2_with fail;exact(A).o):=LG h;exact ztt):=LG h;exact azp):=LG h;exact azs):=LG h;exact zty):=LG h;exact zti):G:=h
def zso (h:G:=by
  have br{G}(h:G:=by
  have bT:((MJ c.l i).kd==1)=false:=beq_eq_false_iff_ne.2 eH;have cV:((MJ c.l i).kd==3)=false:=beq_eq_false_iff_ne.2 hn;have il:((MJ c.l i).kd==4)=false:=beq_eq_false_iff_ne.2 ho;have af:=NP c (((w.alloc (ab3 c)).alloc (ab4 d)).alloc (aae (MJ c.l i))).drew i NZ MK ((((h.alloc (ab3 c)).alloc (ab4 d)).alloc (aae (MJ c.l i))).drew);exact(A).o):=LG h;exact ztf):G:=h
def zsp (h:G:=by
  clear hnum bB eC ix lH fJ tV qG y1 bz eB cv g4 c0 c3 ct d1 bO fO c9 c1 cg;go_enter func128,ntmps128;go_wp2_with fail;refine zlh ?_;refine wh 3 (.slice (some (LD g 0)) n cap) rfl ?_ (hy:=Or.inl ⟨by kernel_rfl,λX aB=>by cases aB;go_simp⟩)
  refine wh 4 (Mc g 0) rfl ?_;refine wh 5 (LC cn) rfl ?_ (hy:=Or.inl ⟨by kernel_rfl,λX aB=>by cases aB;go_simp⟩)
  refine aGg ?_;refine wh 9 (.slice (some (LD g 0)) n cap) rfl ?_ (hy:=Or.inl ⟨by kernel_rfl,λX aB=>by cases aB;go_simp⟩)
  refine wh 10 (Mc g 1) rfl ?_;refine wh 11 (LC bC) rfl ?_ (hy:=Or.inl ⟨by kernel_rfl,λX aB=>by cases aB;go_simp⟩)
  refine zlt ?_;exact(A).o):G:=h
def zsq (h:G:=by
  have br{G}(h:G:=by
  exact(A).o):=LG h;exact ztf):G:=h
def zsr (h:G:=by
  have br{G}(h:G:=by
  have dV:w2.heap.size=w.heap.size+1:=by rw[f6.out];simp
  have br{G}(h:G:=by
  have ea:Hid (w2.cell? (LD w.heap.size 1)=some (L9 dk)):=by show _=_;rw[cell_of cU.out];rfl
  exact(A).o):=LG h;exact atW):=LG h;exact zte):G:=h
def zss (h:G:=by
  have uM:Hid (∀ b,I b->b<w.heap.size):=λb D=>(aO.ne b D).1;have fW:=an1;have ex:y.ks.length<=20000:=by have:=P8 y.ks;omega
  have dv:=hide a7;have yz:g<w.heap.size:=(Me a7.1 g rfl).1;have hpl2:ps.length<=20000:=LM;have o9:a.tr.kd=a.kd:=a.NC.1;have Dh:a.tr.tx=a.tx:=a.NC.2.1;rw[o9,Dh,fD] at pM;clear aa ak bv bF bm aA hcnt yo y' h9 v4 hlat qq hfun k' bd o9 Dh
  generalize a.p=p at *
  generalize y.p=gO at *
  generalize a.tx=tx at *
  generalize y.ks=al at *
  generalize NI (x.tr.kids.map Tr.tx)=mM at *
  generalize namesT y.tr true=mN at *
  exact(A).o):G:=h
def zst (h:G:=by
  have br{G}(h:G:=by
  exact(A).o):=LG h;exact zte):G:=h
def zsu (h:G:=by
  have br{G}(h:G:=by
  refine wg 2 (L9 true) rfl (Or.inl ⟨by kernel_rfl,λL aO=>by cases aO;go_simp⟩) rfl ?_
  refine wg 3 (Mc (w1.heap.size+1) 0) rfl (Or.inl ⟨by kernel_rfl,λL aO=>by cases aO;go_simp⟩) rfl ?_
  refine wg 4 (Mc (w1.heap.size+1) 0) rfl (Or.inl ⟨by kernel_rfl,λL aO=>by cases aO;go_simp⟩) rfl ?_
  refine wg 5 (Mc (w1.heap.size+1) 0) rfl (Or.inl ⟨by kernel_rfl,λL aO=>by cases aO;go_simp⟩) rfl ?_
  refine wg 6 (.slice (some (LD g 0)) l.length cap) rfl (Or.inl ⟨by kernel_rfl,λL aO=>by cases aO;go_simp⟩) rfl ?_
  refine wg 7 (Mc (w1.heap.size+1) 0) rfl (Or.inl ⟨by kernel_rfl,λL aO=>by cases aO;go_simp⟩) rfl ?_
  refine wg 8 (Mc (w1.heap.size+1) 0) rfl (Or.inl ⟨by kernel_rfl,λL aO=>by cases aO;go_simp⟩) rfl ?_
  refine wg 9 (Mc (w1.heap.size+1) 1) rfl (Or.inl ⟨by kernel_rfl,λL aO=>by cases aO;go_simp⟩) rfl ?_
  refine wg 10 (LJ (j:Int)) rfl (Or.inl ⟨by kernel_rfl,λL aO=>by cases aO;go_simp⟩) rfl ?_
  refine wg 11 (Mc g (j * 4)) rfl (Or.inl ⟨by kernel_rfl,λL aO=>by cases aO;go_simp⟩) rfl ?_
  refine wg 12 (Mc g (j * 4)) rfl (Or.inl ⟨by kernel_rfl,λL aO=>by cases aO;go_simp⟩) rfl ?_
  refine wg 13 (LJ (MJ l j).kd) rfl (Or.inl ⟨by kernel_rfl,λL aO=>by cases aO;go_simp⟩) rfl ?_
  exact(A).o):=LG h;exact azo):G:=h
def zsv (h:G:=by
  have br{G}(h:G:=by
  exact(A).o):=LG h;exact ztb):G:=h
def zsw (h:G:=by
  have br{G}(h:G:=by
  exact(A).o):=LG h;exact ztj):G:=h
def zsx (h:G:=by
  have br{G}(h:G:=by
  have dV:w2.heap.size=w.heap.size+1:=by rw[f6.out];simp
  have br{G}(h:G:=by
  have ea:Hid (w2.cell? (LD w.heap.size 1)=some (L9 true)):=by show _=_;rw[cell_of cU.out];rfl
  exact(A).o):=LG h;exact atW):=LG h;exact zth):G:=h
def WC (h:G:=by
  rw[T] at ag aF;simp only[bind_ok] at aF;clear T;go_wp2_with fail;refine NJ ?_;exact(A).o):G:=h
def zsz (h:G:=by
  rw[T] at ag aF;simp only[bind_ok] at aF;clear T;go_wp2_with fail;exact(A).o):G:=h
def alx (h:G:=by
  have br{G}(h:G:=by
  refine(Y7 _).mono ?_;rintro bO aq ⟨x3,rfl,⟨dR,c3,rfl,Jy,rZ⟩,rV⟩;have ju:=hide (rZ aq O4);have q6:=hide (cZ.out.trans (rV.mono cZ.out.size));clear rZ;go_wp2_with fail;refine aGj ?_;rintro ew bh ⟨rfl,rfl⟩;go_wp2_with fail;exact(A).o):=LG h;exact ztu):G:=h
def abX (h:G:=by
  refine zli ?_;refine ug 4 (.map (some aw)) rfl (Or.inl ⟨by kernel_rfl,λX aB=>by have aJ:=Md aB mJ.out;go_simp⟩) aE ?_
  refine aqu ?_;refine ug 6 (LJ (no:Int)) rfl (Or.inl ⟨by kernel_rfl,λX aB=>by have aJ:=Lu nC X (bj.out.trans (aB.mono bj.out.size));go_simp⟩) aE ?_
  exact(A).o):G:=h
def azN (h:G:=by
  have br{G}(h:G:=by
  exact(A).o):=LG h;exact zth):G:=h
def aqz (h:G:=by
  have br{G}(h:G:=by
  exact(A).o):=LG h;exact zti):G:=h
def axw (h:G:=by
  refine uh 14 (L9 true) jD ?_;refine uh 15 (LC bC) jD ?_;refine Qh 16 λK U=>?_;go_simp;refine cm (Lu i3 _ (bj.out.trans (jD.mono bj.out.size))) ?_;rintro e fs ⟨rfl,rT⟩;have jE:LX w2 fs:=jD.trans (rT.mono jD.size);have tS:=Na.later y0 rT;refine U.out _ _ (λ_=>jE) ?_;clear U K;refine uh 17 (L9 ev) jE ?_;refine uh 18 (.agg #[LJ (no:Int),.slice qa F.length ds,L9 ev,Pe]) jE ?_;refine Qh 19 λK U=>?_;go_simp;refine cm (Ur _ false no qa F.length ds ev none fs) ?_;have br{G}(h:G:=by
  obtain⟨wz,d7⟩:∃ wz,wz=(gm.setCell (LD (w.heap.size+1) 0) (MX (fs.heap.size+1))).setCell (LD (w.heap.size+1) 1) (L9 false):=⟨_,rfl⟩;rw[<-d7];have hset:∀ k,k≠w.heap.size+1->wz.heap[k]? = gm.heap[k]?:=λk N=>by rw[d7,Qu N,Qu N]
  have qO:wz.heap[w.heap.size+1]? = some (NK #[MX (fs.heap.size+1),L9 false] 112):=by rw[d7,heap_set (heap_set bG _)];rfl
  have kA:wz.cell? (LD (w.heap.size+1) 0)=some (MX (fs.heap.size+1)):=by rw[cell_of qO];rfl
  have le:wz.cell? (LD (w.heap.size+1) 1)=some (L9 false):=by rw[cell_of qO];rfl
  have br{G}(h:G:=by
  have oD:Hid (LX w wz):=azQ
  clear d7 hset qO yG bG qV qW la jG;go_wp2_with fail;exact(A).o):=LG h;exact ztg):=LG h;exact ztc):G:=h
def afY (h:G:=by
  have br{G}(h:G:=by
  have e1:¬ fx c.l i=Nb:=by rw[an];decide
  have e2:¬ fx c.l i=MI:=by rw[an];decide
  have fE:¬ fx c.l i=tIf:=by rw[an];decide
  have jI:¬ fx c.l i=QN:=by rw[an];decide
  exact(A).o):=LG h;exact ztn):G:=h
def apT (h:G:=by
  refine Qh 9 λK U=>?_;go_simp;refine azO ?_;rintro e cM ⟨⟨u6,rfl,jg⟩,eT⟩;obtain⟨Ba,eF,rfl⟩:=LZ jg;have gb:LX w2 cM:=aE.trans (eT.mono aE.size);have CU:=Na.later gM eT;refine U.out _ _ (λ_=>gb) ?_;clear U K;refine Qh 10 λK U=>?_;refine RU rfl _ _ 38 rfl w2.heap.size _ 9 a6 (LQ ByteArray.empty) 16 underlying38 b4 bL bM bP rfl _ _ _ rfl CU _ _ _ rfl jg (SY aR) (by have:=Lu uP;unfold maxLen;omega) (by have:=Lu uP;omega) gb.size ?_
  intro sr jo yT yx;have y0:Na w2.heap.size jo sr F:=aGl
  have jD:LX w2 jo:=gb.grown yx gb.size (λk N=>(Me CU k N).2);obtain⟨qa,ds,rfl⟩:=LZ y0;refine U.out _ _ (λ_=>jD) ?_;exact(A).o):G:=h
def azP (h:G:=by
  refine aGm ?_;obtain⟨fs,v6⟩:∃ fs,fs=jo:=⟨_,rfl⟩;have jE:LX w2 fs:=by rw[v6];exact jD
  have tS:Na w2.heap.size fs (.slice qa F.length ds) F:=by rw[v6];exact y0
  rw[<-v6];clear v6;refine uh 17 (L9 false) jE ?_;refine uh 18 (.agg #[LJ (no:Int),.slice qa F.length ds,L9 false,Pe]) jE ?_;refine Qh 19 λK U=>?_;go_simp;refine cm (Ur _ true no qa F.length ds false none fs) ?_;have br{G}(h:G:=by
  obtain⟨wz,d7⟩:∃ wz,wz=(gm.setCell (LD (w.heap.size+1) 0) (MX (fs.heap.size+1))).setCell (LD (w.heap.size+1) 1) (L9 true):=⟨_,rfl⟩;rw[<-d7];have hset:∀ k,k≠w.heap.size+1->wz.heap[k]? = gm.heap[k]?:=λk N=>by rw[d7,Qu N,Qu N]
  have qO:wz.heap[w.heap.size+1]? = some (NK #[MX (fs.heap.size+1),L9 true] 112):=by rw[d7,heap_set (heap_set bG _)];rfl
  have kA:wz.cell? (LD (w.heap.size+1) 0)=some (MX (fs.heap.size+1)):=by rw[cell_of qO];rfl
  have le:wz.cell? (LD (w.heap.size+1) 1)=some (L9 true):=by rw[cell_of qO];rfl
  have br{G}(h:G:=by
  have oD:Hid (LX w wz):=azQ
  clear d7 hset qO yG bG qV qW la jG;go_wp2_with fail;exact(A).o):=LG h;exact ztg):=LG h;exact ztc):G:=h
def ais (h:G:=by
  have g8:=hide xW;clear xW hlen
  go_wp2_with (at_builtin;refine wpList_append_lies _ rfl _ _ 46 rfl w.heap.size 22 a6 Pe 1 8 underlying46 b4 bL bM bP rfl MK _ _ _ rfl (HOWN.out.alloc _) (LD bh.heap.size 0) 1 1 [LC iD] rfl rfl (OT bh iD _ rfl) (one_one iD) MK (by unfold maxLen;omega) LM OM (bh.heap.size+1) MP ?_)
  intro g cap bn hown' hgrow hg _;exact(A).o):G:=h
def azR (h:G:=by
  have br{G}(h:G:=by
  exact(A).o):=LG h;exact ztu):G:=h
def TL (h:G:=by
  have cO:=hide h;have fG:=hide (Ap.refl c.R w.heap.size w);exact(A).o):G:=h
def azS (h:G:=by
  have br{G}(h:G:=by
  exact(A).o):=LG h;exact ztv):G:=h
def azT (h:G:=by
  have br{G}(h:G:=by
  have e1:¬ fx c.l i=Nb:=by rw[an];decide
  have e2:¬ fx c.l i=MI:=by rw[an];decide
  exact(A).o):=LG h;exact ztn):G:=h
def an2 (h:G:=by
  have aI:=(cI.block _ (lt_of_heap j9.out) (by have:=Lu a1;omega)).trans j9.out
  have br{G}(h:G:=by
  have bv:=fG.out.next cI;have aV:Hid (Below w.heap.size cs ((cs.setCell (LD w.heap.size 3) (.slice (some (LD cs.heap.size 0)) 2 2)).alloc (.cells #[LC q,LC dM] 22))):=((Below.refl w.heap.size cs).setCell (p:=(LD w.heap.size 3)) Nh _).alloc OM _;have bS:=hide (bv.trans (Ap.of aV.out));have bk:=hide (bE.ap aV.out dl.out);exact(A).o):=LG h;exact aqv):G:=h
def aaf (h:G:=by
  conv=>arg 2;whnf
  unfold fr Q6;go_wp2_with fail;refine zlp ?_;rintro aW w1 ⟨rfl,rfl⟩;go_wp2_with fail;refine aly ?_;rw[oH.out];rintro aW w1 ⟨rfl,rfl⟩;go_wp2_with fail;exact(A).o):G:=h
def axp (h:G:=by
  have br{G}(h:G:=by
  exact(A).o):=LG h;exact ztm):G:=h
def Tf (h:G:=by
  simp only[Value.slice.injEq] at a0;obtain⟨rfl,_,rfl⟩:=a0;exact(A).o):G:=h
def azU (h:G:=by
  have em:Hid (w2.cell? (LD p 3)=some (.slice dj kn cY)):=Md bj.out cK.out;have fu:Hid (w2.cell? (LD p 1)=some (LQ tx)):=Md bj.out es.out;obtain⟨wd,cb⟩:∃ wd,wd=w2.drew:=⟨_,rfl⟩;have aE:LX w2 wd:=by rw[cb];exact O4.drew
  have k6:wd.heap.size=w2.heap.size:=by rw[cb];rfl
  refine wp_region_held (S:=λX=>X=wd) Nw ?_;refine alv ?_;rw[<-cb];have me:=hide k6;have iW:=Md aE fj.out;have bH:=Md aE fu.out;have yK:=cell_lt iW;have hD:=cell_lt bH;clear cb k6;refine wh 0 (Mc w.heap.size 0) rfl ?_;refine wh 1 (.pointer aQ) rfl ?_ (hy:=Or.inl ⟨by kernel_rfl,λX aB=>by cases aB;go_simp⟩)
  refine wh 2 (LC p) rfl ?_;refine wh 3 (LC p) rfl ?_;refine wh 4 (Mc p 1) rfl ?_;refine wh 5 (LQ tx) rfl ?_ (hy:=Or.inl ⟨by kernel_rfl,λX aB=>by cases aB;go_simp⟩)
  refine UK 6 λK U=>?_;go_simp;refine cm (Lu D3 _ (bj.out.trans (aE.mono bj.out.size))) ?_;rintro e aq ⟨rfl,h'⟩;rw[h'];refine U.out _ _ rfl (λ_=>?_);clear U K h' aq;refine aGn ?_;clear iW bH yK hD;go_simp;go_wp2_with fail;have hX:=hide (bj.out.trans (aE.mono bj.out.size));have c7:TW (λb=>I b\/(w.heap.size<=b/\b<wd.heap.size)) tb aw aK ah wd:=eu.out.more hX.out;have CM:w.heap.size<=w.heap.size/\w.heap.size<wd.heap.size:=⟨Nh,by have:=Lu me;omega⟩
  obtain⟨v,a0,hrow,_,Dc⟩:=c7.blk;have Fs:=hide (Md aE fj.out);have AU:=hide (Md aE ea.out);have Ei:=hide (Md aE em.out);have eh:=hide a0;have fa:=hide hrow;have Fj:=hide Dc;have jL:=hide c7;have uU:=hide CM;obtain⟨va,ck,rfl⟩:=LZ hrow;clear CM a0 Dc dV;obtain⟨dA,iV⟩:∃ dA,dA=wd.drew:=⟨_,rfl⟩;have BP:LX wd dA:=by rw[iV];exact O4.drew
  have C1:dA.heap.size=wd.heap.size:=by rw[iV];rfl
  exact(A).o):G:=h
def azV (h:G:=by
  rw[decide_eq_false mr] at af;have cy:=hide af;have j9:=hide ge;have Aj:=hide pa;clear h eH hn ho mr pa ge;have br{G}(h:G:=by
  have br{G}(h:G:=by
  have ka:Hid (w1.heap[w.heap.size+2]? = some (aae (MJ c.l i))):=(D.block (w.heap.size+2) MP).trans (V3 MP);have cn:=ba.out.p.cell;have br{G}(h:G:=by
  have mJ:=hide ((a5.block (w.heap.size+2) (lt_of_heap ka.out)).trans ka.out);have bC:=bj.out.p.cell;have cK:=hide (OZ c w2 i Nc MK j9.out cU.out);clear cn;go_wp2_with fail;refine WB ?_;rintro e aq ⟨rfl,bx⟩;have dr:=hide (cU.out.later bx);have b1:=hide (bR.out.next (Ap.of bx));have bV:=hide (bj.out.ap (Ap.of bx));have sc:=(bx.block (w.heap.size+2) (lt_of_heap mJ.out)).trans mJ.out;have cg:aq.cell? (LD (w.heap.size+2) 0)=some (LJ (MJ c.l i).kd):=by rw[cell_of sc];rfl
  have ky:aq.cell? (LD (w.heap.size+2) 1)=some (LQ (MJ c.l i).tx):=by rw[cell_of sc];rfl
  have iU:=lt_of_heap sc;have dM:=bV.out.p.cell;have gs:=bV.out.p.lt;have c1:=dr.out.c1;have dx:=dr.out.fz 1;have JZ:=dr.out.SB;obtain⟨bZ,cf,cx,kq,dH,aW,a4,bO,ew,fA⟩:=alz aq;clear bC sc;exact(A).o):=LG h;exact azq):=LG h;exact ztd):=LG h;exact atU):G:=h
def alA (h:G:=by
  conv=>arg 2;whnf
  unfold fr Q6;go_wp2_with fail;refine zlp ?_;rintro aW w1 ⟨rfl,rfl⟩;go_wp2_with fail;exact(A).o):G:=h
def azW (h:G:=by
  have br{G}(h:G:=by
  have br{G}(h:G:=by
  exact(A).o):=LG h;exact ztw):=LG h;exact ztk):G:=h
def aqA (h:G:=by
  have dT:aq.heap[w.heap.size]? = ax.heap[w.heap.size]?:=(dD.block w.heap.size OM (λe=>cC.out.op.own e.symm)).trans (rO.block w.heap.size d3);have pT:∀ v,Hid ((aq.setCell (LD w.heap.size 3) v).heap[w.heap.size]? = some (MB 12 LH 0 v)):=λv=>by
   refine azX ?_;rfl
  have df:aq.cell? (LD w.heap.size 3)=ax.cell? (LD w.heap.size 3)/\aq.frozen? (LD w.heap.size 3)=ax.frozen? (LD w.heap.size 3):=⟨World.cell?_of_block (w:=ax) dT,World.frozen?_of_block (w:=ax) dT⟩;obtain⟨ek,el⟩:=df;rw[dW] at ek;rw[dX 3] at el;exact(A).o):G:=h
def azY (h:G:=by
  have br{G}(h:G:=by
  have br{G}(h:G:=by
  have ka:Hid (w1.heap[w.heap.size+2]? = some (aae (MJ c.l i))):=(D.block (w.heap.size+2) MP).trans (V3 MP);have cn:=ba.out.p.cell;exact(A).o):=LG h;exact ztd):=LG h;exact atU):G:=h
def XZ (h:G:=by
  obtain⟨c0,c1,c2,c3,dx⟩:=node_cells aI;have lx:=dx 0;have h4:=dx 3;have ey:=lt_of_heap aI;exact(A).o):G:=h
def U8 (h:G:=by
  go_wp2_with fail;refine NJ ?_;intro e w' ae;obtain⟨rfl,aa⟩:=ae;exact(A).o):G:=h
def alB (h:G:=by
  rintro e bh ⟨⟨rfl,iP⟩,hP⟩;have fe:LX w2 bh:=eo.trans (hP.mono eo.size);have gM:=Na.later d6 hP;obtain⟨a',n5⟩:∃ a',a'=aq.heap.size+1:=⟨_,rfl⟩;have ye:w2.heap.size<=a':=by rw[n5];have:=eo.size;omega
  rw[<-n5] at iP ⊢;exact(A).o):G:=h
def aqB (h:G:=by
  intro ax bu dC;have cC:=hide dC;obtain⟨dW,dX,d3⟩:=cC.out.op.cell;have bK:=cC.out.ap.size;have rk:Hid (Open w.heap.size ((ax.alloc (.cells #[LC bu] 22)).alloc (MB 14 LH 0 (.slice (some (LD ax.heap.size 0)) 1 1))) _ w.heap.size _ _):=(cC.out.op.alloc (.cells #[LC bu] 22)).alloc (MB 14 LH 0 (.slice (some (LD ax.heap.size 0)) 1 1));refine O7 12 λK U=>?_;refine zlf ?_;exact atX):G:=h
def at1 (h:G:=by
  have ag:=hide (OZ c cM i Uu MK kr jy.out.ps);go_wp2_with fail;refine NJ ?_;rintro e jo ⟨rfl,D⟩;have lq:=hide (jy.out.below D);have am:=NP c jo i Oo MK lq.out.ps;rw[decide_eq_false mz] at am;have ag:=hide am;go_wp2_with fail;refine NJ ?_;rintro e fs ⟨rfl,D⟩;have oP:=hide (lq.out.below D);have am:=NP c fs i Ov MK oP.out.ps;rw[decide_eq_false oo] at am;have ag:=hide am;go_wp2_with fail;refine NJ ?_;rintro e gm ⟨rfl,D⟩;have nQ:=hide (oP.out.below D);have am:=NP c gm i MS MK nQ.out.ps
  rw[decide_eq_false pw] at am;have ag:=hide am;go_wp2_with fail;refine NJ ?_;rintro e Dz ⟨rfl,D⟩;have vd:=hide (nQ.out.below D);exact(A).o):G:=h
def apU (h:G:=by
  have br{G}(h:G:=by
  exact(A).o):=LG h;exact atW):G:=h
def azZ (h:G:=by
  have oT:((MJ c.l j).kd != 5)=false:=by rw[bw];rfl
  rw[if_pos ⟨bw,an⟩] at aG;have ab:=gV.out bw;clear an bw;have n':((j:Int)+1)=(((j+1:Nat)):Int):=LM;obtain⟨bZ,cf,cx,kq,sn,so,lR,dH,aW,a4,bO,ew,fA,hb,qf,Bu⟩:=alC ((wr.setCell (LD c.P 1) (LJ ((j:Int)+1))).alloc (aae (MJ c.l j))) (wr.heap.size+1) MP;have dr:Hid (Ps c ((((wr.setCell (LD c.P 1) (LJ ((j:Int)+1))).alloc (aae (MJ c.l j))).alloc (.map lR 7)).drew.drew) (j+1) 0 (-1)):=by rw[n'];exact(((nI.out.step ab).alloc _).alloc _).drew.drew
  have b1:Hid (Ap c.P w.heap.size w ((((wr.setCell (LD c.P 1) (LJ ((j:Int)+1))).alloc (aae (MJ c.l j))).alloc (.map lR 7)).drew.drew)):=(((i1.out.setCell (p:=(LD c.P 1)) (Or.inr rfl) _).alloc (by have:=i1.out.size;simp;omega) _).alloc (by have:=i1.out.size;simp;omega) _).drew.drew
  have gU:Hid (NV w.heap.size ((((wr.setCell (LD c.P 1) (LJ ((j:Int)+1))).alloc (aae (MJ c.l j))).alloc (.map lR 7)).drew.drew) t (LC q)):=NV.later ⟨q,rfl,b3.out⟩ (((((Ap.refl c.P wr.heap.size wr).setCell (p:=(LD c.P 1)) (Or.inr rfl) _).alloc MP _).alloc MP _).drew.drew) a1.out;have em:Hid (((((wr.setCell (LD c.P 1) (LJ ((j:Int)+1))).alloc (aae (MJ c.l j))).alloc (.map lR 7)).drew.drew).heap[g]? = some (NK V4 9)):=(b1.out.block g (lt_of_heap dN.out) l5.out).trans dN.out;exact(A).o):G:=h
def at6 (h:G:=by
  have br{G}(h:G:=by
  have p1:=hide (cO.out.later dL);have uB:=hide dL;go_wp2_with fail;refine zle ?_;refine aGo ?_;refine wg 3 (.map (some c.mV)) rfl (Or.inl ⟨by kernel_rfl,λL aO=>by have a2:=Ol.c5 aO;go_simp⟩) p1.out.drew ?_
  refine wh 4 (Nz c) p1.out.drew ?_;refine UK 5 λK U=>?_;go_simp;refine cm (QD c _ i d p1.out.drew) ?_;rintro e fY ⟨rfl,jU⟩;have et:=hide (p1.out.drew.later jU);have pH:=hide (uB.out.trans ((O4.drew.trans jU).mono uB.out.size));refine azm ?_;clear U K;exact(A).o):=LG h;exact azB):G:=h
def axH (h:G:=by
  refine zli ?_;refine ug 4 (.map (some aw)) rfl (Or.inl ⟨by kernel_rfl,λX aB=>by have aJ:=Md aB mJ.out;go_simp⟩) aE ?_
  refine aqu ?_;refine ug 6 (LJ (no:Int)) rfl (Or.inl ⟨by kernel_rfl,λX aB=>by have aJ:=Lu nC X (q7.out.trans (aB.mono q7.out.size));go_simp⟩) aE ?_
  have br{G}(h:G:=by
  have eo:LX fQ (wd.alloc (.cells #[LQ tx] 9)):=aE.alloc (by have:=Lu me;omega) _
  have wZ:Hid (Na fQ.heap.size (wd.alloc (.cells #[LQ tx] 9)) (.slice (some (LD wd.heap.size 0)) 1 1) [tx]):=⟨rfl,Or.inr ⟨wd.heap.size,1,#[LQ tx],rfl,by have:=Lu me;omega,LP _ _,Nh,by decide,rfl,rfl⟩⟩
  refine alD ?_;clear U K;obtain⟨aq,h'⟩:∃ aq,aq=wd.alloc (.cells #[LQ tx] 9):=⟨_,rfl⟩;have uH:Hid (wd.heap.size<aq.heap.size):=by show _<_;rw[h'];simp
  rw[<-h'] at eo wZ ⊢;clear h';obtain⟨fn,n7⟩:∃ fn,fn=wd.heap.size:=⟨_,rfl⟩;have D9:Hid (fQ.heap.size<=fn):=by show _<=_;rw[n7];have:=Lu me;omega
  rw[<-n7] at wZ uH ⊢;clear n7;refine uh 12 (.agg #[LJ (no:Int),.slice (some (LD fn 0)) 1 1,L9 false,Pe]) eo ?_;refine Qh 13 λK U=>?_;go_simp;exact(A).o):=LG h;exact azC):G:=h
def V5 (h:G:=by
  refine wp_seq_k λK U=>?_;have dN:=hide U;clear U;go_wp2_with fail;exact(A).o):G:=h
def az0 (h:G:=by
  have br{G}(h:G:=by
  exact(A).o):=LG h;exact azr):G:=h
def axE (h:G:=by
  have bX:Hid (w2.heap[w.heap.size+1]? = some (NK #[Pe,L9 false] 112)):=(hset _ LM).trans gM;have bj:Hid (LX w w2):=aGp
  have dw:Hid (w.heap.size+2<=w2.heap.size):=by show _<=_;have:=fe.size;omega
  have oL:Hid (w2.heap[a']? = some (UN no (.slice (some (LD fn 0)) 1 1) false (.pointer aQ))):=(hset _ LM).trans iP;have j8:Hid (Na w.heap.size w2 (.slice (some (LD fn 0)) 1 1) [tx]):=Ob (L8 (I:=λb=>fQ.heap.size<=b) (λb D _=>hset b (by have E:fQ.heap.size<=b:=D;omega)) (λb D=>(Me Cy b D).2) Cy) LM
  have wG:Hid (w.heap.size<=a'):=by show _<=_;omega
  have zU:Hid (a'<w2.heap.size):=by show _<_;omega
  have DQ:Hid (a'≠w.heap.size+1):=by show _≠_;omega
  have Ec:Hid (fn<w2.heap.size):=by show _<_;omega
  have l5:Hid (fn≠w.heap.size+1):=by show _≠_;omega
  clear bW hset po iP gM cJ qV qW la jG dV dI ye GM G9;have k0:=Md bj.out jr.out;have b8:=Md bj.out nt.out;have qK:cn<w2.heap.size:=Nat.lt_of_lt_of_le eZ bj.out.size;go_wp2_with fail;clear k0 b8 qK;have fj:Hid (w2.cell? (LD w.heap.size 0)=some (MX a')):=by show _=_;rw[cell_of cU.out];rfl
  exact(A).o):G:=h
def at7 (h:G:=by
  have aC:6<w.heap.size:=(Array.getElem?_eq_some_iff.1 hg).1;have cG:=hide he;have f3:=hide hg;have b3:=hide av;have eu:=hide hw;clear hg av he hw;go_enter func157,ntmps157;go_wp2_with fail;refine(ajI _).mono ?_;rintro aW w1 ⟨x,rfl,af,hbel⟩;obtain⟨am,an⟩:=XC hbel;have cZ:=hide hbel;have cy:=hide af;go_wp2_with fail;have hpast:=WZ s k x OL w1 (by unfold maxLen;omega) LM cy.out
  rw[cG.out] at hpast;refine hpast.mono ?_;rintro a4 w2 ⟨rfl,rfl⟩;have pN:Hid (w2.heap[6]? = some (.cells (aj.map Value.string).toArray t fr)):=aFP
  go_wp2_with fail;refine aGq ?_;exact(A).o):G:=h
def aqC (h:G:=by
  obtain⟨w1,c9⟩:∃ w1,w1=w.alloc (.cells #[.slice (some (LD g 0)) ps.length cap] 114):=⟨_,rfl⟩;exact(A).o):G:=h
def aw6 (h:G:=by
  have hown:ax.ownsRow w.heap.size 22 1 (.slice aQ k cc) k (bf.map LC):=by
   have h:=Lu uT;rw[uZ.out] at h;exact h
  refine step_append_lies _ rfl _ _ 46 rfl w.heap.size 22 a6 Pe 1 8 underlying46 b4 bL bM bP rfl MK _ _ _ rfl (hown.alloc _) (LD ax.heap.size 0) 1 1 [LC bu] rfl rfl (OT ax bu _ rfl) (one_one bu) MK (by simp[maxLen];omega) LM OM (ax.heap.size+1) MP ?_
  intro hv cap3 aq hown3 dD dc _;have i3:=hide (Open.acU b'.out g7.out (by show k+1=(ks.take k).length+1;rw[List.length_take];omega) hown3 dD dc)
  have cB:∀ v,Hid (Below w.heap.size ax (aq.setCell (LD w.heap.size 3) v)):=λv=>b'.out.grows ((Below.refl _ ax).alloc HM _) OM dD;have dT:aq.heap[w.heap.size]? = ax.heap[w.heap.size]?:=(dD.block w.heap.size OM (λe=>b'.out.own e.symm)).trans (Below.heap_alloc ax _ w.heap.size wS.out.2.2);have ek:aq.cell? (LD w.heap.size 3)=some (.slice aQ k cc):=(World.cell?_of_block (w:=ax) dT).trans wS.out.1;have el:aq.frozen? (LD w.heap.size 3)=false:=(World.frozen?_of_block (w:=ax) dT).trans (wS.out.2.1 3)
  have j9:Hid (aq.heap[w.heap.size]? = ax.heap[w.heap.size]?):=dT;refine alE ?_;clear U K dc dT;exact(A).o):G:=h
def ab5 (h:G:=by
  obtain⟨gu,ja,ed⟩:=bI.out.cell;obtain⟨eq,uc,ji⟩:=bI.out.shape;subst ji;exact(A).o):G:=h
def ait (h:G:=by
  have cQ:Hid (∀ L:LK,Ol c L i d->(Instr.lookup 201 (.map (some c.mV)) (LQ (fx c.l i)) true).run prog L=.ok (.tuple #[.nilFunc,L9 false]) L):=λL aO=>az1
  exact(A).o):G:=h
def Xw (h:G:=by
  go_wp2_with fail;refine NJ ?_;rintro e w1 ⟨rfl,rfl⟩;go_wp2_with fail;exact(A).o):G:=h
def alF (h:G:=by
  rw[T] at ag aF;simp only[Oc] at aF;clear T;go_wp2_with fail;exact(A).o):G:=h
def az2 (h:G:=by
  have a1:=hide h.SB;have dl:=hide h.base.size;have bb:=hide ay;have bN:=hide ai;have e4:=hide aN;have tC:decide ((30:Int)<(d:Int))=false:=decide_eq_false LM;exact(A).o):G:=h
def az3 (h:G:=by
  have br{G}(h:G:=by
  have bx:aq.heap[b]? = some (NK #[.slice aQ n cc] 46):=awX
  have ct:aq.cell? (LD b 0)=some (.slice aQ n cc):=by rw[Lib.cell_of_heap bx];rfl
  have f0:aq.frozen? (LD b 0)=false:=Lib.frozen_of_heap bx 0;have oV:Ap b (b+1) w (aq.setCell (LD b 0) (.slice (some (LD dJ 0)) (n+1) cap')):=BJ.setCell (p:=(LD b 0)) (Or.inr rfl) _;have g2:b+1<=dJ:=(Me hown' dJ rfl).2;have bB:Pq I w (aq.setCell (LD b 0) (.slice (some (LD dJ 0)) (n+1) cap')):=λk N ab=>oV.block k (by have:=Lu oI k N;omega) (by have:=Lu oI k N;omega)
  have kQ:Hid (ab6 I b (l++[t]) (aq.setCell (LD b 0) (.slice (some (LD dJ 0)) (n+1) cap'))):=aGr
  exact(A).o):=LG h;exact zto):G:=h
def az4 (h:G:=by
  have oF:=hide (afZ w1);have lj:=hide (eE.out.later (O4.alloc Nh (.cells #[LQ ⟨#[61,61,61]⟩,LQ ⟨#[38,38]⟩,LQ ⟨#[124,124]⟩,LQ ⟨#[40]⟩,LQ ⟨#[41]⟩,LQ ⟨#[123]⟩,LQ ⟨#[125]⟩,LQ ⟨#[91]⟩,LQ ⟨#[93]⟩,LQ ⟨#[59]⟩,LQ ⟨#[58]⟩,LQ ⟨#[44]⟩,LQ ⟨#[46]⟩,LQ ⟨#[61]⟩,LQ ⟨#[43]⟩,LQ ⟨#[45]⟩,LQ ⟨#[42]⟩,LQ ⟨#[60]⟩,LQ ⟨#[33]⟩] 9)));obtain⟨aR,aN⟩:∃ aR,aR=w1.heap.size:=⟨_,rfl⟩
  obtain⟨dB,fB⟩:∃ dB,dB=w1.alloc (.cells #[LQ ⟨#[61,61,61]⟩,LQ ⟨#[38,38]⟩,LQ ⟨#[124,124]⟩,LQ ⟨#[40]⟩,LQ ⟨#[41]⟩,LQ ⟨#[123]⟩,LQ ⟨#[125]⟩,LQ ⟨#[91]⟩,LQ ⟨#[93]⟩,LQ ⟨#[59]⟩,LQ ⟨#[58]⟩,LQ ⟨#[44]⟩,LQ ⟨#[46]⟩,LQ ⟨#[61]⟩,LQ ⟨#[43]⟩,LQ ⟨#[45]⟩,LQ ⟨#[42]⟩,LQ ⟨#[60]⟩,LQ ⟨#[33]⟩] 9):=⟨_,rfl⟩;rw[<-fB,<-aN];rw[<-fB,<-aN] at oF;rw[<-fB] at lj;clear fB aN kw kx nf ng;obtain⟨kw,kx,nf,ng⟩:=lj.out.cells;exact(A).o):G:=h
def aua (h:G:=by
  obtain⟨k0,a9,bD,b8⟩:=h.toks;have aC:(i:Int)<(c.l.length:Int):=by have:=h.lt;omega
  exact(A).o):G:=h
def af0 (h:G:=by
  obtain⟨wd,cb⟩:∃ wd,wd=w2.drew:=⟨_,rfl⟩;have aE:LX w2 wd:=by rw[cb];exact O4.drew
  exact(A).o):G:=h
def az5 (h:G:=by
  have br{G}(h:G:=by
  have B2:LX w2 (wd.alloc (.cells #[LQ tx] 9)):=aE.alloc aE.size _;have tQ:Na w2.heap.size (wd.alloc (.cells #[LQ tx] 9)) (.slice (some (LD wd.heap.size 0)) 1 1) [tx]:=⟨rfl,Or.inr ⟨wd.heap.size,1,#[LQ tx],rfl,aE.size,LP _ _,Nh,by decide,rfl,rfl⟩⟩;refine U.out _ _ (λ_=>B2) ?_;clear U K;obtain⟨aq,h'⟩:∃ aq,aq=wd.alloc (.cells #[LQ tx] 9):=⟨_,rfl⟩;obtain⟨en,da⟩:∃ en:Option Addr,en=some (LD wd.heap.size 0):=⟨_,rfl⟩;have eo:LX w2 aq:=by rw[h'];exact B2
  have d6:Na w2.heap.size aq (.slice en [tx].length 1) [tx]:=by rw[h',da];exact tQ
  rw[<-h',<-da];clear h' da;refine uh 12 (.agg #[LJ (no:Int),.slice en [tx].length 1,L9 false,Pe]) eo ?_;refine Qh 13 λK U=>?_;go_simp;exact(A).o):=LG h;exact azC):G:=h
def af2 (h:G:=by
  have a1:=hide h.SB;have dl:=hide h.base.size;have bb:=hide ay;have bN:=hide ai;have e4:=hide aN;exact(A).o):G:=h
def aqD (h:G:=by
  obtain⟨f9,hps1⟩:∃ q:List (LY × Sc),q=ps:=⟨_,rfl⟩;have p0:Hid (RR (λb=>I b\/(w.heap.size<b/\b<w1.heap.size)) w1 (.slice (some (LD g 0)) ps.length cap) f9):=aGs
  have kI:Hid (0<f9.length/\f9.length<=ps.length+1):=by rw[hps1];exact⟨ee,by omega⟩
  exact(A).o):G:=h
def Y8 (h:G:=by
  go_wp2_with fail;refine NJ ?_;rintro e d0 ⟨rfl,rfl⟩;go_wp2;go_ret;exact(A).o):G:=h
def Yx (h:G:=by
  go_wp2_with fail;refine zlw ?_;rintro e w2 ⟨rfl,rfl⟩;go_wp2_with fail;exact(A).o):G:=h
def az6 (h:G:=by
  go_wp2_with fail;refine NJ ?_;rintro e w2 ⟨⟨u2,rfl,bG⟩,a5⟩;have bj:=hide (ba.out.trans (a5.mono ba.out.size));have p4:=hide (Na.later nU.out a5);have wO:=hide bG;have dw:=hide a5.size;obtain⟨fS,c2,rfl⟩:=bG.form;have b9:=hide (Y9 t p w w2 l9.out bj.out ex);go_wp2_with fail;refine Ul ?_;rintro e aq ⟨⟨u3,rfl,d6⟩,bx⟩;have bV:=hide (bj.out.trans (bx.mono bj.out.size));have nW:=hide (Na.later p4.out bx);have iJ:=hide (Nat.le_trans dw.out bx.size);obtain⟨en,c3,rfl⟩:=d6.form
  obtain⟨ps,n6,hh⟩:=wO.out.later bx;obtain⟨bf,gd,jc⟩:=d6;have bF:=QK.length _ _ hh;have eZ:=QK.length _ _ jc;rw[bF] at n6;rw[eZ] at gd;have ju:=hide n6;have kG:=hide gd;have h1:=hide (QK.append jc _ _ hh);have uV:Hid (ps.length=(Tj t).length/\bf.length=(O0 t).length):=⟨bF,eZ⟩;clear bF eZ;exact(A).o):G:=h
def aub (h:G:=by
  have br{G}(h:G:=by
  have eg:=hide ((dd.out.alloc bK (.cells #[LC iD] 22)).grown hgrow OM (λk N=>(Lu g8 k N).2));have gX:=hide (mH.out.ap (((Below.refl w.heap.size bh).alloc bK (.cells #[LC iD] 22)).grown hgrow OM (λk N=>(Lu g8 k N).2)) dl.out);clear hg;exact(A).o):=LG h;exact azz):G:=h
def aqE (h:G:=by
  have br{G}(h:G:=by
  exact(A).o):=LG h;exact atU):G:=h
def az7 (h:G:=by
  obtain⟨k,rfl⟩:∃ k,gk=k+1:=aqF
  obtain⟨q,rfl,av⟩:=hF;have b3:=hide av;have nI:=hide cF;have i1:=hide dq;have aJ:=cF.c0;have E:=cF.c1;have f1:=cF.fz 1;obtain⟨k0,a9,bD,b8⟩:=cF.toks;have aC:(j:Int)<(c.l.length:Int):=by have:=cF.lt;omega
  have k3:=cF.base.len;have a7:=cF.SB;have ce:=cF.base.tlt;have GE:c.P<wr.heap.size+1:=LM;have vv:c.tb<wr.heap.size+1:=LM;have g2:=(dq.block g (lt_of_heap dN.out) l5.out).trans dN.out;have de:=lt_of_heap g2;have gd:g<wr.heap.size+1:=LM;have t6:wr.cell? (LD g o)=some (LQ s):=by rw[cell_of g2];exact Lu E8
  have es:=hide (Q9 cF);have k4:(MJ c.l j).kd=5->j+1<c.l.length:=λN=>Q8 cF.base.ends cF.lt (by rw[N];decide)
  have gV:=hide k4;unfold P6 at ac;have aG:=hide ac;exact(A).o):G:=h
def axq (h:G:=by
  have br{G}(h:G:=by
  exact(A).o):=LG h;exact azA):G:=h
def alG (h:G:=by
  have cB:∀ v,Hid (Below w.heap.size ax (aq.setCell (LD w.heap.size 3) v)):=λv=>cC.out.op.grows ((((Below.refl _ ax).alloc bK _).alloc OM _).alloc OM _) OM dD;exact(A).o):G:=h
def az8 (h:G:=by
  have br{G}(h:G:=by
  refine wt 4 (L9 true) ?_;refine wt 5 (LQ s) ?_;refine wt 8 (LQ s) ?_;refine wt 9 (LJ (s.size:Int)) ?_;refine O7 6 λK U=>?_;go_simp;refine(ajI _).mono ?_;rintro e aq ⟨gA,rfl,m8,a5⟩;have jP:=hide m8;have bj:=hide a5;refine U _ _ ?_;clear U K;refine O7 7 λK U=>?_;go_simp;refine(WZ s 0 gA OL aq aF.out (Nat.zero_le _) jP.out).mono ?_;rintro e bh ⟨rfl,rfl⟩;refine U _ _ ?_;clear U K;exact(A).o):=LG h;exact ztl):G:=h
def az9 (h:G:=by
  have br{G}(h:G:=by
  have br{G}(h:G:=by
  refine UK 11 λK U=>?_;go_simp;clear lV e8 lW ui j5 SB;obtain⟨cu,hA⟩:∃ cu,cu=(((w1.setCell (LD (w.heap.size+1) 0) (LQ x.tx)).setCell (LD (w.heap.size+1) 1) (LJ x.kd)).setCell (LD (w.heap.size+1) 2) (LJ x.parts)).setCell (LD (w.heap.size+1) 3) (LJ x.str):=⟨_,rfl⟩;exact(A).o):=LG h;exact azx):=LG h;go_simp;exact zts):G:=h
def an3 (h:G:=by
  obtain⟨ps,hown,iP,o9⟩:=Lu h0;have hlen:=LU.length _ _ iP;have xW:=Me hown;rw[hlen] at hown;have HOWN:=hide hown;have HLEN:=hide hlen;have hr:=hide o9;have bK:=dd.out.size;exact(A).o):G:=h
def auc (h:G:=by
  have aC:=h.SB;have dQ:Hid (∀ (w:LK),Ol c w i d->MC 240 #[Nz c] w λe w'=>e=MN (LQ s)/\LX w w'):=λw h=>by rw[W];exact QD c w i d h
  clear h W ay;go_enter func293,ntmps293;go_wp2_with fail;refine zle ?_;refine aGt ?_;refine wg 3 (.map (some c.mS)) rfl (Or.inl ⟨by kernel_rfl,λL aO=>by have a2:=Ol.c3 aO;go_simp⟩) bo.out ?_
  refine wh 4 (Nz c) bo.out ?_;exact(A).o):G:=h
def aAa (h:G:=by
  have br{G}(h:G:=by
  exact(A).o):=LG h;exact azD):G:=h
def adW (h:G:=by
  have g6:t.count=1+Tr.counts t.kids:=by cases t with|mk kd tx kt ks=>exact count_mk _ _ _ _
  exact(A).o):G:=h
def aAb (h:G:=by
  have e4:=hide av;clear av;have br{G}(h:G:=by
  rintro a4 w2 ⟨rfl,rfl⟩;go_wp2_with fail;have hds:∀ i,(ak:i<(s.extract k e).size)->Nl ((s.extract k e)[i].toNat:Int)=true:=λi ak=>aGu
  have bK:=extract_size s k e LM c8;refine(af4 (s.extract k e) w2 LM LM hds).mono ?_;rw[e4.out];rintro bO aq ⟨rfl,rV⟩;have lG:=cZ.out.trans (rV.mono cZ.out.size);clear am an;obtain⟨am,an⟩:=XC lG;have cZ:=hide lG;exact(A).o):=LG h;exact ztq):G:=h
def af5 (h:G:=by
  intro e w1 ae;obtain⟨⟨v1,rfl,rfl⟩,aY,aa⟩:=ae;have b7:=hide (fG.out.next aa);have cd:=hide aY;exact(A).o):G:=h
def axc (h:G:=by
  intro t aH am p w aN;obtain⟨a6,b4,bL,bM,bP⟩:=info_parts info22;obtain⟨bF,c0,c1,u,c3,T⟩:=aN.cells;have c2:=Nj.c2 aN;obtain⟨eq,uc,rfl⟩:=T.form;have bo:=hide T;have g6:t.count=1+Tr.counts t.kids:=by cases t with|mk kd tx n ks=>exact count_mk _ _ _ _
  have i4:Hid (∀ k (N:k<t.kids.length),t.kids[k].count<=m/\t.kids[k].count<=20000):=λk N=>by
   have:=TU t.kids k N;omega
  have ex:t.kids.length<=20000:=by have:=NG t.kids;omega
  have eE:=hide aU;have dQ:Hid (t=.mk t.kd t.tx t.n t.kids):=by show _=_;cases t;rfl
  clear aU g6 aH am
  generalize t.kd=kd at c0 dQ
  generalize t.tx=tx at c1 dQ
  generalize t.n=n at c2 dQ
  generalize t.kids=ks at *
  have eu:=hide (anp w kd n tx);exact(A).o):G:=h
def aAc (h:G:=by
  have Fz:Hid (bn.cell? (LD p 3)=some (.slice (some (LD g 0)) kn cY)):=(tG.cell (Or.inl rg.out) LM).trans (Md aE em.out);have Fy:Hid (bn.cell? (LD g 1)=some (LC bC)):=(tG.cell (Or.inl Eh.out) LM).trans (Md aE jt.out);have ER:=hide CP;clear CP lM dV;go_simp;go_wp2_with fail;obtain⟨dA,iV⟩:∃ dA,dA=bn.drew:=⟨_,rfl⟩;have dK:LX bn dA:=by rw[iV];exact O4.drew
  refine MR 10 (λX=>LX bn X) Nw ?_;rw[<-iV];clear iV;refine aAd ?_;refine uc 4 (.slice (some (LD g 0)) kn cY) rfl (Or.inl ⟨by kernel_rfl,λX aB=>by have aJ:=Md aB Fz.out;go_simp⟩) dK ?_
  refine uh 5 (Mc g 1) dK ?_;refine uc 6 (LC bC) rfl (Or.inl ⟨by kernel_rfl,λX aB=>by have aJ:=Md aB Fy.out;go_simp⟩) dK ?_
  exact(A).o):G:=h
def aqG (h:G:=by
  have qV:bh.cell? (LD w.heap.size 0)=some (.pointer aQ):=by rw[cell_of cJ];rfl
  have qW:bh.cell? (LD w.heap.size 1)=some (L9 true):=by rw[cell_of cJ];rfl
  have la:=Ny cJ;have jG:=lt_of_heap cJ;refine ah9 ?_;clear U K n5;exact(A).o):G:=h
def alH (h:G:=by
  have mJ:Hid (w2.cell? (LD tb 0)=some (.map (some aw))):=Md bj.out ht.out;exact(A).o):G:=h
def aud (h:G:=by
  have ea:Hid (w2.cell? (LD w.heap.size 1)=some (L9 true)):=by show _=_;rw[cell_of cU.out];rfl
  exact(A).o):G:=h
def aue (h:G:=by
  have cJ:bh.heap[w.heap.size]? = some (NK #[.pointer aQ,L9 dk] 112):=by rw[fe.block _ LM];exact Lu cU
  have qV:bh.cell? (LD w.heap.size 0)=some (.pointer aQ):=by rw[cell_of cJ];rfl
  have qW:bh.cell? (LD w.heap.size 1)=some (L9 dk):=by rw[cell_of cJ];rfl
  have la:=Ny cJ;have jG:=lt_of_heap cJ;refine ah9 ?_;clear U K n5;exact(A).o):G:=h
def aqH (h:G:=by
  obtain⟨dj,cY,e7⟩:=NH hrow.1;rw[List.length_map] at e7;subst e7;exact(A).o):G:=h
def aAe (h:G:=by
  have br{G}(h:G:=by
  exact(A).o):=LG h;exact azz):G:=h
def aqI (h:G:=by
  obtain⟨dW,dX,d3⟩:=b'.out.cell;have mh:w.heap.size<ax.heap.size+1:=LM;have mi:w.heap.size<ax.heap.size+2:=LM;have JG:w.heap.size<ax.heap.size+1+1:=LM;clear fq;refine U _ _ ?_;clear U K;exact(A).o):G:=h
def aAf (h:G:=by
  have br{G}(h:G:=by
  exact(A).o):=LG h;exact azu):G:=h
def aAg (h:G:=by
  refine uh 7 (LC p) aE ?_;refine Qh 8 λK U=>?_;go_simp;refine cm (Lu hK _ (bj.out.trans (aE.mono bj.out.size))) ?_;rintro e fQ ⟨⟨IA,rfl,ed⟩,gs⟩;have vu:LX w2 fQ:=aE.trans (gs.mono aE.size);refine U.out _ _ (λ_=>vu) ?_;clear U K;refine Qh 9 λK U=>?_;go_simp;refine cm ed ?_;rintro e aq ⟨⟨u3,rfl,tQ⟩,bx⟩;have eo:LX w2 aq:=vu.trans (bx.mono vu.size);have d6:Na w2.heap.size aq u3 aR:=Ob tQ vu.size;obtain⟨en,i7,rfl⟩:=LZ d6;refine alD ?_;clear U K
  refine uh 10 (.agg #[LJ (no:Int),.slice en aR.length i7,L9 false,Pe]) eo ?_;refine Qh 11 λK U=>?_;go_simp;exact(A).o):G:=h
def aAh (h:G:=by
  refine step_append_lies _ (by rfl) _ _ 161 (by rfl) (w.heap.size+1) 167 a6 TB 4 40 underlying161 ak bL bM bP rfl MK v au.length _ (by rfl) (pP.out.own.alloc (.cells #[LJ 6,U7,LJ 0,LJ (s.size:Int)] 167)) (LD fl.heap.size 0) 1 1 [LJ 6,U7,LJ 0,LJ (s.size:Int)] (by rfl) (by rfl) (X0 _ _ _ _ _) (aa0 _ _ _ _) LM (by unfold maxLen;omega) LM (by have:=pP.out.size;simp;omega) _ rfl ?_
  intro g cap bn hown' hgrow _ _;refine io _ _ ?_;clear io fk;have xS:=pP.out.app (t:=(Tk.mk 6 ⟨#[]⟩ 0 s.size)) _ hown' hgrow;have j7:=hide xS;have mR:=xS.lists cQ.out;obtain⟨bq,ep,cn,bC⟩:=xS.cells;have sm:=mR.f0;have l1:=mR.f1;exact(A).o):G:=h
def alI (h:G:=by
  go_wp2_with fail;refine NJ ?_;rintro e aq ⟨rfl,bx⟩;have b1:=hide (bR.out.next (Ap.of bx));have f5:=hide (bX.out.later bx);exact(A).o):G:=h
def auf (h:G:=by
  have br{G}(h:G:=by
  clear ay aN U;exact azH):=LG h;exact azF):G:=h
def ab7 (h:G:=by
  refine NJ ?_;rintro e ax ⟨⟨ck,rfl,bu,rfl,fd⟩,fq,aa⟩;exact(A).o):G:=h
def awI (h:G:=by
  obtain⟨X,aB⟩:∃ X,X=[M,ah].flatten:=⟨_,rfl⟩;rw[<-aB];have cy:=hide aB;clear N am hD gx ex aB;go_enter func131,ntmps131;go_wp2_with fail;refine NJ ?_;rintro e w1 ⟨⟨u,rfl,T⟩,D⟩;have bo:=hide (T.low (Nat.zero_le _));have aV:=hide D;obtain⟨aQ,cc,rfl⟩:=T.form;have cK:=hide (b9.out w1 D);go_wp2_with fail;refine WB ?_;rintro e w2 ⟨⟨u,rfl,T⟩,D⟩;have bX:=hide (T.low (Nat.zero_le _));have cd:=hide (bo.out.later D);have bj:=hide (aV.out.trans (D.mono aV.out.size));obtain⟨px,py,rfl⟩:=T.form
  have bx:LX w2 (w2.alloc (.cells #[.slice aQ M.length cc,.slice px ah.length py] 46)):=Qn;exact(A).o):G:=h
def aAi (h:G:=by
  clear T;go_wp2_with fail;refine zll ?_;refine wg 1 (LJ x.kd) rfl (Or.inl ⟨by kernel_rfl,λL aO=>by obtain⟨_,jl,_,_,_,_⟩:=c160 aO;go_simp⟩) ih.out ?_
  refine wh 2 (LC bq) ih.out ?_;refine wh 3 (Nz c) ih.out ?_;refine wh 4 (Mc aj.heap.size 3) ih.out ?_;refine wg 5 (LJ x.str) rfl (Or.inl ⟨by kernel_rfl,λL aO=>by obtain⟨_,_,_,jl,_,_⟩:=c160 aO;go_simp⟩) ih.out ?_
  refine wg 6 (LJ (x.str+1)) rfl (Or.inl ⟨by kernel_rfl,λL _=>by have hw:IntKind.i64.wrap (x.str+1)=x.str+1:=(by rw[IntKind.wrap_i64];omega);go_simp;try exact hw⟩) ih.out ?_
  refine UK 7 λK U=>?_;go_simp;refine NJ ?_;exact(A).o):G:=h
def aqJ (h:G:=by
  have eg:=hide ((dd.out.alloc bK (.cells #[LC iD] 22)).grown hgrow OM (λk N=>(Lu g8 k N).2));exact(A).o):G:=h
def aAj (h:G:=by
  have br{G}(h:G:=by
  exact(A).o):=LG h;exact azw):G:=h
def aAk (h:G:=by
  refine cm EU.out ?_;rintro e w1 ⟨⟨u,rfl,aS⟩,bz⟩;have zY:=hide (Lu wV u w1 aS);have ba:=hide bz;obtain⟨eq,uc,rfl⟩:=LZ aS;have I9:w1.cell? (LD w.heap.size 0)=some (LQ old):=by rw[bz.cell (p:=(LD w.heap.size 0)) (by show w.heap.size<_;omega)];exact rH
  have Ja:w1.cell? (LD (w.heap.size+1) 0)=some (LQ other):=by rw[bz.cell (p:=(LD (w.heap.size+1) 0)) (by show w.heap.size+1<_;omega)];exact xq
  have eB:=bz.size;have I':w.heap.size<w1.heap.size:=LM;have Jb:w.heap.size+1<w1.heap.size:=LM;clear rH xq;go_wp2_with fail;refine Lu dN _ _ ?_;clear K;exact(A).o):G:=h
def ad5 (h:G:=by
  replace bI:=hide (bI.out.stay aa a1.out);replace bS:=hide (bS.out.next aa);exact(A).o):G:=h
def aAm (h:G:=by
  have br{G}(h:G:=by
  exact(A).o):=LG h;exact azx):G:=h
def aAn (h:G:=by
  have br{G}(h:G:=by
  exact(A).o):=LG h;exact azF):G:=h
def af6 (h:G:=by
  refine NJ ?_;intro e ax ae;obtain⟨⟨ck,rfl,bu,rfl,fd⟩,aY,aa⟩:=ae;exact(A).o):G:=h
def an4 (h:G:=by
  refine ug 0 (Pv (.pointer aQ) true) rfl (Or.inl ⟨by kernel_rfl,λX aB=>by have aJ:=Md aB fj.out;have E:=Md aB ea.out;go_simp⟩) aE ?_
  exact(A).o):G:=h
def aqK (h:G:=by
  go_wp2_with fail;refine NJ ?_;rintro e cT ⟨rfl,qs⟩;have ig:=hide (iI.out.later qs);have iH:=hide (jp.out.next (Ap.of qs));have bI:=hide (Open.later pV.out (Ap.of qs) a1.out);clear hk r2;exact(A).o):G:=h
def aAo (h:G:=by
  replace jN:=hide (Nj.later (λb D _=>aa.block b D.2 (by have E:=Lu a1;have O:=D.1;omega)) _ _ jN.out)
  have ag:=hide (aa1 aq.heap.size tb ss fP av cy.out);go_wp2_with fail;refine NJ ?_;rintro e ax ⟨rfl,lH,g0⟩;have dh:=hide (q1.out.trans ((Ap.of g0).mono b1.out.size));have fi:=hide (nL.out.ap g0 f5.out.base.size);replace jN:=hide (Nj.later (λb D _=>g0.block b D.2) _ _ jN.out);obtain⟨ku,rfl,ge⟩:=lH.nv;have j9:=hide (Nj.mono (J:=λb=>From w.heap.size b/\aq.heap.size<=b) (λ_ D _=>⟨Nat.le_trans b1.out.size D,D⟩) _ _ ge);exact(A).o):G:=h
def aw7 (h:G:=by
  refine cm (Lu b3 wd aE) ?_;rintro e ax ⟨⟨bu,rfl,fd⟩,o1⟩;have y4:=o1.size;have q5:Hid (LX wr ax):=aE.trans (o1.mono (Nat.le_of_eq me.out.symm));have BK:Ap p wd.heap.size wd ax:=Ap.of o1;have b':=hide (uS.out.stay BK bF);have g7:=hide (uS.out.Za (by have:=Lu me;omega) Nh (LU.cons fd LU.nil) (uS.out.kb BK bF))
  have uT:=hide b'.out.row;have wS:=hide b'.out.cell;have HM:w.heap.size<=ax.heap.size:=by have:=Lu me;omega
  have eZ:bf.length=k:=aFR
  refine U.out _ _ (λ_=>q5.out) ?_;clear U K;exact(A).o):G:=h
def aAp (h:G:=by
  have br{G}(h:G:=by
  have ag:=hide (RD c Ox ax az d fi.out an MK);go_wp2_with fail;refine NJ ?_;rintro e cT ⟨rfl,aY,aa⟩;have ig:=hide aY;have iH:=hide (dh.out.next aa);replace bI:=hide (Open.later bI.out (aa) a1.out);have fZ:=hide (QA ai aN cT.drew d (az+1) _ rfl (by rw[a5];nofun) ig.out.drew)
  rw[a5] at fZ;exact(A).o):=LG h;exact azt):G:=h
def aug (h:G:=by
  clear T;go_wp2_with fail;refine NJ ?_;rintro e wh ⟨⟨v,rfl,q,rfl,av⟩,cv,aa⟩;have j9:=hide ((aa.block _ (lt_of_heap e3.out.nd) (by have:=Lu a1;omega)).trans e3.out.nd)
  have fG:=hide (e3.out.ap.next aa);have kL:=hide cv;have l9:=hide av;have jz:=hide aa.size;exact(A).o):G:=h
def axf (h:G:=by
  obtain⟨dn,cap2,sd,jc,yu⟩:=aG.out.form LM;simp only[Value.slice.injEq] at sd;obtain⟨rfl,-,rfl⟩:=sd;have g8:=hide (Me bb.out)
  go_wp2_with (at_builtin;refine wpList_append_lies _ rfl _ _ 46 rfl w.heap.size 22 a6 Pe 1 8 underlying46 b4 bL bM bP rfl MK _ _ _ rfl bb.out (LD dn 0) bf.length _ (bf.map LC) rfl MP (aa2 aG.out) (af7 bf) LM (by unfold maxLen;omega) LM bK _ rfl ?_)
  intro dJ cap' aq hown' hgrow fX _;have bV:=hide (aV.out.grown hgrow bK (λb D=>(Lu g8 b D).2));exact aqx):G:=h
def aAq (h:G:=by
  have C7:(RW w).heap.size=w.heap.size+2:=by simp
  have hsz2:=bj.out.size;have a7:=Lu j6;have c0:aq.heap[w.heap.size]? = some (NK #[Pe] 22):=by
   rw[aa.block _ LM LM,bj.out.block _ LM,Below.heap_alloc _ _ _ MP];exact LP _ _
  have c1:aq.heap[w.heap.size+1]? = some (NK #[nIZ] 28):=aFS
  have ct:aq.cell? (LD w.heap.size 0)=some Pe:=by rw[cell_of c0];rfl
  have FZ:=Ny c0;have d1:aq.cell? (LD (w.heap.size+1) 0)=some nIZ:=by rw[cell_of c1];rfl
  have F0:=Ny c1;have cB:Hid (LX w aq):=aFQ
  exact(A).o):G:=h
def aAr (h:G:=by
  have cB:∀ v,Hid (Below w.heap.size ax (aq.setCell (LD w.heap.size 3) v)):=λv=>b'.out.grows ((Below.refl _ ax).alloc bK _) OM dD;have df:aq.cell? (LD w.heap.size 3)=ax.cell? (LD w.heap.size 3)/\aq.frozen? (LD w.heap.size 3)=ax.frozen? (LD w.heap.size 3):=aGv
  obtain⟨ek,el⟩:=df;rw[dW] at ek;rw[dX 3] at el;clear dc;refine wt 10 (LC w.heap.size) ?_;refine wt 11 (Mc w.heap.size 3) ?_;refine O7 12 λK U=>?_;go_simp;refine Qd ?_;clear U K ek el dW dX d3 ja gu ed;refine aad ?_;go_wp2;go_ret;exact(A).o):G:=h
def aqL (h:G:=by
  have bK:=extract_size s j e LM c8;refine aGw ?_;rintro bO aq ⟨rfl,rV⟩;have l6:=hide (eE.out.later rV);clear kw kx nf ng;obtain⟨kw,kx,nf,ng⟩:=l6.out.cells;exact(A).o):G:=h
def alJ (h:G:=by
  refine NJ ?_;rintro e ax ⟨⟨ck,rfl,bu,rfl⟩,fq,he,aa⟩;have dh:=hide (bS.out.drew.next aa);exact(A).o):G:=h
def aqM (h:G:=by
  refine Ul ?_;rintro e aq ⟨rfl,bx⟩;have dr:=hide (cD.out.later bx);have b1:=hide (b7.out.next (Ap.of bx));have em:=hide (KV.later fu.out (Ap.of (R:=c.P) bx) a1.out);exact(A).o):G:=h
def auh (h:G:=by
  have bB:=Qa OL s q ef (by unfold OL;rw[ab,aD];rfl)
  have d4:e=q:=LM;subst d4;have kI:=hide ab;have js:=hide aD;clear ab aD bB cX;go_wp2_with fail;refine alK ?_;rw[kI.out];rintro a4 w2 ⟨rfl,rfl⟩;go_wp2_with fail;refine aly ?_;rw[js.out];exact(A).o):G:=h
