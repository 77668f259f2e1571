import Derived.Test.YticfnaiehdpbmaaGreatDoorWa14
import Derived.Test.YticfnaiehdpbmaaGreatDoorWa15
import Derived.LaidHandle
import Derived.Stop.LaidErr
set_option maxRecDepth 100000
set_option maxHeartbeats 0
set_option linter.all false
namespace Go.Proofs.YticfnaiehdpbmaaGreatDoor
open Go.RowKit Go.Proofs.Tryz
namespace Hp
structure Rw (w:Py)(es:PO)(eb:Addr):Prop where
 is:es=.iface 359 (.pointer (some eb))
 qj:w.cell? (Pn 1 0)=some es
 et:Tv w
 tb:kV w
 gl:Gl w
 lt:1<w.heap.size
section
variable {aO:Py}{b j:Nat}{aR:List Nat}{t i g aQ cn:PO}{w w':Py}{s:St}{aE:Addr}
theorem Rw.fQ (h:Rw w t aE)(a:PG w w'):Rw w' t aE:=
 ⟨h.is,PV a h.qj,Wh h.et a (by have:=h.lt;omega),Lib.tabBelow_of_tabIs h.tb w' a,h.gl.fQ a,by have:=a.size;have:=h.lt;omega⟩
theorem Rw.cx (h:Rw w t aE)(a:Bs w b j aR t):Cx w b j aR t aE:=
 ⟨a,⟨h.is,h.qj,h.et,by rw[<-a.sz];exact h.lt⟩,h.tb,h.gl⟩
def pM:Er->Int
 |.no=>1
 |.Y3 _=>2
 |_=>3
def pw (a:Mo):Er->PS
 |.Y3 c=>a.hE c
 |_=>PE
structure Fin (w0:Py)(mb:Nat)(aS aB:PO)(c:Int)(x:PS)(σ:St)(w:Py):Prop where
 bw:Below mb w0 w
 lt:mb<w.heap.size
 c2:w.cell? (Pn mb 2)=some aS
 c3:w.cell? (Pn mb 3)=some (Ph c)
 c4:w.cell? (Pn mb 4)=some (PI x)
 c5:w.cell? (Pn mb 5)=some (Ph (σ.steps:Int))
 c6:w.cell? (Pn mb 6)=some aB
 lg:w.ownsRow mb 9 1 aS σ.hF.length (σ.hF.map Value.string)
 se:w.ownsRow mb 54 2 aB σ.seen.length (σ.seen.flatMap ma)
section
variable (c:Mx aO b j aR i g aQ cn w s)(a:Int)
include c a
theorem q6:Fin aO b i g a PE s (w.setCell (Pn b 3) (Ph a)):=by
 obtain⟨h,d⟩:=c.hh.cell 1 (Ph a);exact Ij
theorem xO (x:PS):Fin aO b i g a x s ((w.setCell (Pn b 3) (Ph a)).setCell (Pn b 4) (PI x)):=by
 obtain⟨k,f⟩:=c.hh.cell 1 (Ph a);obtain⟨h,e⟩:=k.cell 2 (PI x);have d:=f.trans e;exact Ij
end
theorem Eo.va {c:Er}{a:Va}(h:Eo s c)(e:c=.Y3 a)(d:Sz 400000000 s):-9223372036854775808<=a.n/\a.n<=9223372036854775807:=by
 subst e;have:=(sy (d:=s.M) h.2 d.go.sm.o).2;omega
theorem au3 (d:Cx aO b j aR t aE)(r:Ms aO b j aR w s){a:Er}(o:Eo s a)(q:Sz 400000000 s){e:PO}(l:Yu t w e a) :
  PN 31 #[Pm b,e] w λf w'=>f=PY (.tuple #[])/\∃i g,Fin aO b i g (pM a) (pw s.M a) s w':=by
 obtain⟨i,g,aQ,cn,m⟩:=r
 cases a with
 |no=>
  have k:e=RI:=l;subst k;refine(azh m).mono ?_;rintro f w' ⟨rfl,n,c,_,rfl⟩;exact⟨rfl,i,g,q6 c 1⟩
 |stop=>
  have k:e=t:=l;subst k;refine(aq6 d.st m).mono ?_;rintro f w' ⟨rfl,n,c,_,rfl⟩;exact⟨rfl,i,g,q6 c 3⟩
 |Y3 v=>
  obtain⟨u,rfl,p⟩:=l;refine(auY d.b d.tb d.st m p (o.va rfl q)).mono ?_;rintro f w' ⟨rfl,n,c,_,rfl⟩;exact⟨rfl,i,g,xO c 2 _⟩
 |iZ=>exact o.elim
def Vu (w:Py)(a:Tr)(c:Ending)(w':Py):Prop:=PG w w'/\match hD a false false false with
 |some d=>c=PY (.tuple #[nj (.slice none 0 0) (.slice none 0 0) 0 0 ⟨#[]⟩,.iface 34 (Ph d)])
 |none=>∃i g,c=PY (.tuple #[nj i g (pM (Ui a).1) (Ui a).2.steps (pw (Ui a).2.M (Ui a).1),.nilIface])/\w'.ownsRow w.heap.size 9 1 i (Ui a).2.hF.length ((Ui a).2.hF.map Value.string)/\w'.ownsRow w.heap.size 54 2 g (Ui a).2.seen.length ((Ui a).2.seen.flatMap ma)
theorem zK {a:Tr}(c:Bk a):Eo (Ui a).2 (Ui a).1/\Sz 400000000 (Ui a).2:=by
 have h:=azm c;exact⟨h.er,h.iv.sz (by have:=h.ex.st;have d:RU.steps=0:=rfl;show (9000:Int)<=_;omega) h.er.le⟩
theorem ara:Sz 100 RU:=by
 obtain⟨bB,a,c⟩:=Yy.1.pz;exact a.up (by have:RU.steps=0:=rfl;omega)
abbrev pe (w:Py)(a:Nat)(x y c d e:PO):Py:=((((w.setCell (Pn a 0) x).setCell (Pn a 1) y).setCell (Pn a 2) c).setCell (Pn a 3) d).setCell (Pn a 4) e
theorem BX {a:Nat}{x y q v z:PO}{d:TypeId}(h:w.heap[a]?=some (Qb #[x,y,q,v,z] d))(e l f k c:PO):(pe w a e l f k c).heap[a]?=some (Qb #[e,l,f,k,c] d):=by
 have n{G}(h:G:=by
 have p:=hs _ a 3 _ d k m;have u:=hs _ a 4 _ d c p;exact u):=Pq h;exact rU
theorem DH {c e:Nat}{d:Py}(h:Below c d w)(a:c<=e)(x y f k l:PO):Below c d (pe w e x y f k l):=
 ((((h.setCell a x).setCell a y).setCell a f).setCell a k).setCell a l
theorem Je {a c d f e:Nat}{k:PO}{l:List PO}(h:w.ownsRow a d f k e l)(o:c<=a):w.ownsRow c d f k e l:=⟨h.1,by
 rcases h.2 with h|⟨r,p,q,u,m,n⟩
 ·exact .inl h
 ·exact .inr ⟨r,p,q,u,gr o m,n⟩⟩
theorem rj {c d r a f e:Nat}{l:PO}{m:List PO}{k:TypeId}{q:Array PO}(h:w.ownsRow c a f l e m)(n:w.heap[d]?=some (Qb q k))(o:k≠a)(x:PO):(w.setCell (Pn d r) x).ownsRow c a f l e m:=
 m1 h (λu=>by
  obtain⟨v,p⟩:=QZ h u;exact Sj n p o rfl) x
theorem zD {k a e v u:Nat}{z:PO}{A:List PO}{c:TypeId}{x y D F E:PO}(h:w.ownsRow k e v z u A)(l:w.heap[a]?=some (Qb #[x,y,D,F,E] c))(d:c≠e)(f r q p B:PO):(pe w a f r q p B).ownsRow k e v z u A:=by
 have o:=hs w a 0 _ c f l;have m:=hs _ a 1 _ c r o;have n:=hs _ a 2 _ c q m;have C:=hs _ a 3 _ c p n;exact rj (rj (rj (rj (rj h l d _) o d _) m d _) n d _) C d _
theorem KM (bZ:Rw w t aE){I:Ad}(db:Rl (λ_=>True) w I)(bA:I.TB.Nodup)(br:hD I.tr false false false=none->Bk I.tr)(bb:I.tr.kd=1)(bz:I.tr.iA=0)(bJ:I.tr.count<=1500) :
  PN 11 #[Pm I.p] w (Vu w I.tr):=by
 obtain⟨B,aH⟩:=xH (w.alloc (.cells #[RF,Ph 0,QB,Ph 0,RF] 29));have C:PG w B:=by rw[aH.out];exact QK
 obtain⟨n,ax⟩:=xE w.heap.size;have aJ:B.heap[n]?=some (Qb #[RF,Ph 0,QB,Ph 0,RF] 29):=by rw[aH.out,ax];exact Pz _ _
 have bi:w.heap.size<=n:=Pv;have aD:=Rl.kp (Kp.of C) _ db;have D:=CS I.tr I.p false false B aD.nat.nt bz Pv;have bf:=Y aJ;have bh:=Y bi;have b6:=fR aJ
 cases u:hD I.tr false false false with
 |some L=>
  rw[u] at D;have af:Vu w I.tr=λc w'=>PG w w'/\c=PY (.tuple #[nj RF RF 0 0 ⟨#[]⟩,.iface 34 (Ph L)]):=by
   unfold Vu;rw[u]
  rw[af];clear bA br bb bz bJ aJ bi aD u af b6;obtain⟨du,ak⟩:=xE I.p;rw[<-ak] at D ⊢;clear ak;go_enter func11,ntmps11;go_wp2_with fail;rw[<-aH.out,<-ax];refine cm D ?_;rintro c al ⟨p,r⟩;have bq:c=PY (.iface 34 (Ph L)):=p;subst bq;have H:=C.trans (r.mono C.size);have aI:=Y (fZ r bf.out);obtain⟨df,cU,c8,dh,dt,d,dx⟩:=iI (fZ r bf.out);have dc:=d 0;have dd:=d 1;have de:=d 2;have dj:=d 3;have cO:=d 4;clear p d ax;go_wp2_with fail
  obtain⟨bQ,z⟩:=xE (pe al n RF (Ph 0) (QB) (Ph 0) RF);have A:=BX aI.out RF (Ph 0) (QB) (Ph 0) RF;have k:=DH H bh.out RF (Ph 0) (QB) (Ph 0) RF;unfold pe at z A k;rw[<-z] at A k;obtain⟨ba,be,a8,bn,bG,_,_⟩:=iI A;rw[<-z];refine hp (v:=.tuple #[nj RF RF 0 0 ⟨#[]⟩,.iface 34 (Ph L)]) (by simp[results,results11,go_sem,ba,be,a8,bn,bG]) rfl ?_;exact⟨k,rfl⟩
 |none=>
  rw[u] at D;have ah:=br u;obtain⟨dW,cS⟩:=xE I.tr;have af:Vu w I.tr=λc w'=>PG w w'/\∃i g,c=PY (.tuple #[nj i g (pM (Ui I.tr).1) (Ui I.tr).2.steps (pw (Ui I.tr).2.M (Ui I.tr).1),RI])/\w'.ownsRow w.heap.size 9 1 i (Ui I.tr).2.hF.length ((Ui I.tr).2.hF.map Value.string)/\w'.ownsRow w.heap.size 54 2 g (Ui I.tr).2.seen.length ((Ui I.tr).2.seen.flatMap ma):=by
   unfold Vu;rw[u]
  rw[af];have bN:∀bD ∈ TK ((some 0,I.tr):Nd),bD.2.fS.length=2:=λbD cx=>by
   obtain⟨dS,dR,dH,dT,dN,cT,_⟩:=(o5 (b:=(some 0,I.tr)) ah bD cx).sh;rw[cT];rfl
  have bY:I.hU<=90000:=by rw[<-I.VU];omega
  have b2:=Y (λa (o:PG B a)=>adM (Rl.kp (Kp.of o) _ aD) bA bY ((bZ.fQ C).fQ o).qj);have dz:=Y (λa (o:PG w a) b j (ah:Bs a b j I.TB t)=>(bZ.fQ o).cx ah);have cr:=Y (λa (o:Kp B a)=>BP (Rl.kp o _ aD));obtain⟨b7,bR⟩:Eo (Ui I.tr).2 (Ui I.tr).1/\Sz 400000000 (Ui I.tr).2:=zK ah;obtain⟨dl,a1⟩:=xE (Ui I.tr);have b8:=Y (λa (ay:Qc I.TB a I (some 0,I.tr))=>Oe ay bb)
  have aM:=Y (λa f b j aQ (cT:Mx f b j I.TB RF RF aQ RF a RU) (ay:Qc I.TB a I (some 0,I.tr))=>N9 cT ara PK ay bJ bN);have bm:=Y (λa f b j ce (o:Cx f b j I.TB t aE) (a7:Ms f b j I.TB a (Rf (some 0,I.tr) RU).2) (T:Uk 0 a ce I.ks) (ay:Qc I.TB a I (some 0,I.tr))=>PA o ah a7 T ay.l8);obtain⟨aX,aU⟩:=xE (Rf (some 0,I.tr) RU);obtain⟨aY,bF⟩:=xE (Ti (fx 20002) aX.1 (QA (some 0,I.tr)) none aX.2);have cL:dl=(aY.1.2.1,aY.2):=by rw[a1,bF,aU];rfl
  rw[<-a1] at b7 bR ⊢;rw[<-aU] at aM bm;rw[<-bF] at bm;subst cL;obtain⟨du,ak⟩:=xE I.p;rw[<-ak] at D b2 b8 aM ⊢;clear bA br bb bz bJ aJ bi aD u af b6 ak bN bY a1 aU bF cS;go_enter func11,ntmps11;go_wp2_with fail;rw[<-aH.out,<-ax];refine cm D ?_;rintro c al ⟨p,r⟩;have bq:c=PY RI:=p;subst bq;have H:=C.trans (r.mono C.size);have aI:=Y (fZ r bf.out);have cC:=Pj b2 al r;have dg:Kp B al:=Kp.of r;clear p ax;go_wp2_with fail;refine cm cC ?_
  rintro c ap ⟨f,b,j,aQ,rfl,q,aK,bv⟩;have cQ:PG f ap:=by unfold PG;rw[aK.sz];exact bv.bw
  have cJ:PG al ap:=q.trans (cQ.mono q.size);have cj:=Pj dz f (H.trans (q.mono H.size)) b j aK;have dm:Kp B ap:=λO m c cw p=>Kp.of cJ O m c (dg O m c cw p) p;have aT:=Pj cr ap dm;have bE:Hid (w.heap.size<b):=by show _<_;rw[<-aK.sz];have:=fR aI.out;have:=q.size;have:=Pj bh;omega
  have di:Hid (PG w f/\f.heap[n]?=some (Qb #[RF,Ph 0,QB,Ph 0,RF] 29)/\f.heap.size=b):=⟨H.trans (q.mono H.size),fZ q aI.out,aK.sz⟩;have cy:=Pj b8 ap aT;go_wp2_with fail;refine cm cy ?_;rintro c dJ ⟨rfl,ce,rfl,bP⟩;obtain⟨dM,uc,cK⟩:=bP.form;subst cK;have cz:=Pj aM _ f b j aQ bv aT;go_wp2_with fail;refine cm cz ?_;rintro c cp ⟨rfl,dC,ds,dk⟩;have bS:=dk.kp bv;have cB:=aT.kp bS;have cE:=bP.kp bS;have cG:=Pj bm cp f b j _ cj ⟨_,_,_,_,ds⟩ cE cB
  obtain⟨⟨dU,dF,dV⟩,dE⟩:=aX;go_wp2_with fail;refine cm cG ?_;rintro c bU ⟨⟨dP,rfl,cR⟩,a7,_,_⟩;obtain⟨⟨da,L,dD⟩,aL⟩:=aY;obtain⟨cP,⟨dq,on,dr⟩⟩:=da;obtain⟨bQ,z⟩:=xE (bU.alloc (.cells #[PD cP,Ph dq,Ph on,PI dr] 67));have k:PG bU bQ:=by rw[z];exact QK
  have dv:=au3 cj (a7.fQ k) b7 bR (cR.fQ k);have cq:=Y z;clear z;go_wp2_with fail;rw[<-cq.out];refine cm dv ?_;rintro c bX ⟨rfl,i,g,e⟩;obtain⟨R,M,cg⟩:=P7 e.lg;obtain⟨N,ad,b5⟩:=P7 e.se;obtain⟨U,b3⟩:=xE aL.hF.length;obtain⟨ae,bL⟩:=xE aL.seen.length;rw[<-b3] at cg;rw[<-bL] at b5;subst cg b5;clear b3 bL;obtain⟨q,bx,b1⟩:=Pj di;have ci:n<b:=by rw[<-b1];exact fR bx
  have bI:=(e.bw.block n ci).trans bx;have dp:PG w bX:=q.trans (e.bw.mono (by have:=Pj bE;omega))
  obtain⟨df,cU,c8,dh,dt,d,dx⟩:=iI bI;have dc:=d 0;have dd:=d 1;have de:=d 2;have dj:=d 3;have cO:=d 4;have dK:=e.c2;have cX:=e.c3;have cY:=e.c4;have cZ:=e.c5;have dL:=e.c6;have dG:=e.lt;have dO:n≠b:=Pv;have bH:=Y bI;have cA:=Je e.lg (show w.heap.size<=b by have:=Pj bE;omega)
  have cH:=Je e.se (show w.heap.size<=b by have:=Pj bE;omega)
  obtain⟨E,bW⟩:=xH (pM L);obtain⟨F,bK⟩:=xH (pw aL.M L);obtain⟨X,ck⟩:=xH ((aL.steps:Int):Int);rw[<-bW.out] at cX;rw[<-bK.out] at cY;rw[<-ck.out] at cZ;clear bx b1 bI d ci;go_wp2_with fail;obtain⟨dQ,bo⟩:=xE (pe bX n (.slice R U M) (Ph E) (PI F) (Ph X) (.slice N ae ad));have A:=BX bH.out (.slice R U M) (Ph E) (PI F) (Ph X) (.slice N ae ad);have k:=DH dp bh.out (.slice R U M) (Ph E) (PI F) (Ph X) (.slice N ae ad)
  have aW:=zD cA bH.out PK (.slice R U M) (Ph E) (PI F) (Ph X) (.slice N ae ad);have a6:=zD cH bH.out PK (.slice R U M) (Ph E) (PI F) (Ph X) (.slice N ae ad);unfold pe at bo A k aW a6;rw[<-bo] at A k aW a6;rw[<-bo];obtain⟨ba,be,a8,bn,bG,_,_⟩:=iI A;refine hp (v:=.tuple #[nj (.slice R U M) (.slice N ae ad) E X F,RI]) (by simp[results,results11,go_sem,ba,be,a8,bn,bG]) rfl ?_;exact⟨k,_,_,by rw[bW.out,bK.out,ck.out],aW,a6⟩
end
end Hp
section
open Go.ChangeShapes Go.WideShapes Go.ChangeAt Go.WideMaps Go.WideElems Go.RowKit
theorem OB : Tryz.prog.globalNamed "errors.errorType" = some 0 := by kernel_rfl
theorem Dw : Tryz.prog.globalNamed "sloppyscope/run.errStopped" = some 1 := by kernel_rfl
theorem Pg : Tryz.prog.globalNamed "internal/strconv.uint64pow10" = some 8 := by kernel_rfl
theorem aFf:(Tryz.prog.globals[1]?).map (·.type)=some 31:=by kernel_rfl
theorem aJq:(Tryz.prog.globals[8]?).map (·.type)=some 341:=by kernel_rfl
theorem aFg : (Tryz.prog.cutTypes.find? (·.1 == "internal/reflectlite.rtype")).map (·.2) = some 215 := by kernel_rfl
theorem o8:((List.range 393).filter λa=>Tryz.prog.rowNamed a [101,114,114,111,114])=[31]:=by kernel_rfl
theorem azq:Tryz.prog.types.size=393:=by kernel_rfl
theorem Pi:Tryz.prog.cellsOf 320=1:=by kernel_rfl
theorem arl:Tryz.prog.cellsOf 341=20:=by kernel_rfl
theorem OK:Tryz.prog.cellsOf 361=1:=by kernel_rfl
theorem AG : "*" ++ "errors.errorString" = "*errors.errorString" := by decide
theorem T6 (a : TypeId)(h : Tryz.prog.typeName? 3 a = some "*errors.errorString") : a = 359 :=
 typeName_ptr_named (nm := "errors.errorString") (by rw [AG]; kernel_rfl) (by kernel_rfl) (by decide) a (by rw [AG]; exact h)
theorem au4:(Rows.laid_internal_strconv_uint64pow10:DataW Unit)=Lib.tabData .u64 Lib.pow10Tab:=rfl
theorem Vi:∀a,a<19->(Rq.getD a ByteArray.empty).size<=3:=by decide +kernel
theorem W1 {W : World}(h : handlesMet Tryz.prog [("errors.errorType", Rows.laid_errors_errorType)] W) : Hp.Tv W := by
 obtain⟨i,m,j,c,d,e,f,b⟩:=h _ (gn.2 rfl);have l:i=[101,114,114,111,114]:=(hb c).symm;subst l;obtain rfl:=hb (aFg.symm.trans d);have a:j ∈ (List.range 393).filter λk=>Tryz.prog.rowNamed k [101,114,114,111,114]:=ir.2 ⟨mI.2 (by rw[<-azq];exact e),f⟩
 rw[o8] at a;obtain rfl:=gn.1 a;have g:typeHandle Tryz.prog 31=.pointer (some ⟨13,31,none⟩):=by kernel_rfl
 rw[g] at b;simpa using World.var?_cell OB b 0
theorem rg {e:String}{g:DataW Unit}{m:List (String×DataW Unit)}{W:World}(h:laidMet Tryz.prog ((e,g)::m) W):∃b c a d f,Tryz.prog.globalNamed e=some b/\(Tryz.prog.globals[b]?).map (·.type)=some c/\W.var? Tryz.prog e=some a/\DataW.trod (λ_=>()) Tryz.prog W 0 (λ_=>true) false d c a.toList=some (g,f):=by
 obtain⟨n,⟨b,c,a,d,f,o,l,i,j,k,_⟩,_⟩:=h;exact⟨b,c,a,d,f,l,i,j,k⟩
theorem sC {a:Array Value}{b:List Value}(h:a.toList=b):a=b.toArray:=by
 obtain⟨c⟩:=a;exact zalcy List.toArray h
abbrev OZ : List (String × DataW Unit) -> List (String × DataW Unit) := λa => ("sloppyscope/lex.words", Rows.laid_sloppyscope_lex_words) :: ("sloppyscope/lex.signs", Rows.laid_sloppyscope_lex_signs) :: ("sloppyscope/tree.signs", Rows.laid_sloppyscope_tree_signs) :: ("sloppyscope/tree.heads", Rows.laid_sloppyscope_tree_heads) :: a
section
variable {W:World}{a:List (String×DataW Unit)}
include W a
theorem T2 (h:laidMet Tryz.prog (OZ a) W):Hp.Gl W:=by
 obtain⟨ae,al,I,ak,N,A,q,z,u⟩:=rg h;obtain⟨O,af,L,T,ah,r,w,C,E⟩:=rg h.tail;obtain⟨U,ap,H,S,R,v,o,n,k⟩:=rg h.tail.tail;obtain⟨X,au,M,ad,P,m,t,c,F⟩:=rg h.tail.tail.tail;obtain rfl:=hb (Id.symm.trans A);obtain rfl:=hb (Ax.symm.trans r);obtain rfl:=hb (Bt.symm.trans v);obtain rfl:=hb (Ky.symm.trans m);obtain rfl:=hb (azo.symm.trans q)
 obtain rfl:=hb (azp.symm.trans w);obtain rfl:=hb (M0.symm.trans o);obtain rfl:=hb (au7.symm.trans t);have g:=sC (Z8 Fa rfl u);have i:=sC (Z8 Fb rfl E);have j:=sC (anX k);have l:=sC (Nw F);obtain⟨u0,p,e⟩:=XY Id z;obtain⟨u1,d,f⟩:=XY Ax C;obtain⟨u2,D,B⟩:=XY Bt n;obtain⟨u3,b,s⟩:=XY Ky c
 exact⟨⟨Q0,Rg,Vi,⟨u0,p,by rw[e,g];rfl⟩,⟨u1,d,by rw[f,i];rfl⟩⟩,⟨⟨u3,b,by rw[s,l]⟩,⟨u2,D,by rw[B,j]⟩⟩⟩
theorem W5 (h : laidMet Tryz.prog (("internal/strconv.uint64pow10", Rows.laid_internal_strconv_uint64pow10) :: a) W) : Hp.kV W := by
 obtain⟨j,k,f,i,g,e,d,c,b⟩:=rg h;obtain rfl:=hb (Pg.symm.trans e);obtain rfl:=hb (aJq.symm.trans d);rw[au4] at b;unfold Hp.kV Lib.TabIs;rw[c,<-Lib.cells_of_tab Tryz.underlying341 Tryz.underlying320 Pi arl b]
theorem SZ (h : laidMet Tryz.prog (("sloppyscope/run.errStopped", Rows.laid_sloppyscope_run_errStopped) :: a) W) : ∃ d : Addr, W.cell? ⟨1, 0, none⟩ = some (.iface 359 (.pointer (some d))) := by
 obtain⟨b,e,c,_⟩:=laid_sentinel h Dw aFf Tryz.underlying31 T6 Tryz.underlying359 Tryz.underlying361 rfl rfl zalea OK j7;exact⟨b,by simpa using World.var?_cell Dw c 0⟩
end
theorem Ww {W:World}(f:Hp.kV W)(d:Hp.Tv W)(c:Hp.Gl W)(b:∃a:Addr,W.cell? ⟨1,0,none⟩=some (.iface 359 (.pointer (some a)))):∃e a,Hp.Rw W e a:=by
 obtain⟨a,b⟩:=b;exact⟨_,a,rfl,b,d,f,c,by have:=c.li.lt;omega⟩
end
namespace Hp
section
variable {o:PO}{b c:Py}{n:Addr}
theorem Wt (l:Rw b o n){m:PS}{d:Tr}{e:Nat}{f:Nat->Prop}(a:Tj RS Rq m=.ok d)(k:QT f b d e):PN 11 #[Pm e] b (Vu b d):=by
 obtain⟨p,rfl,rfl,j,g,_⟩:=QT.ad d e k;exact KM l (Rl.mono (λ_ _ _=>trivial) _ j) g (λi=>(Y5 a i).bk Pv) (Xf a).1 (x5 a) (Xf a).2
section
variable {a:Tr}{d:Ending}
theorem afD (h:Vu b a d c)(g:hD a false false false=none):PG b c/\∃f e,d=PY (.tuple #[nj f e (pM (Ui a).1) (Ui a).2.steps (pw (Ui a).2.M (Ui a).1),RI])/\c.ownsRow b.heap.size 9 1 f (Ui a).2.hF.length ((Ui a).2.hF.map Value.string)/\c.ownsRow b.heap.size 54 2 e (Ui a).2.seen.length ((Ui a).2.seen.flatMap ma):=by
 unfold Vu at h;rw[g] at h;exact h
theorem Ls {e:Int}(h:Vu b a d c)(f:hD a false false false=some e):PG b c/\d=PY (.tuple #[nj RF RF 0 0 ⟨#[]⟩,.iface 34 (Ph e)]):=by
 unfold Vu at h;rw[f] at h;exact h
end
end
section
variable {N:PO}{e d:Py}{M:Addr}
theorem aAG {g:Py->Nat->Prop}(p:PS)(t:Int)(r:Hid (PN 9 #[PI p] e λc d=>∃f,c=PY (.tuple #[Pm f,PD true])/\g d f/\PG e d))(aT:Hid (∀a,PG e a->PN 18 #[] a λc d=>c=PY (PD true)/\PG a d))(z:Hid (∀j f a,PG e j->g j f->PG j a->PN 11 #[Pm f] a λc d=>PG a d/\c=PY (.tuple #[nj RF RF 0 0 ⟨#[]⟩,.iface 34 (Ph t)]))) :
  PN 6 #[PI p] e λc d=>c=PY (PD true)/\PG e d:=by
 go_enter func6,ntmps6;go_wp2_with fail;refine cm r.out ?_;rintro c j ⟨f,rfl,n,l⟩;have L:=Y l;have q:=Y (λa i=>Pj z j f a l n i);clear n;have b{G}(h:G:=by
 have u:=Y bm;go_wp2_with fail;refine cm (Pj q bn u.out) ?_;rintro c m ⟨o,rfl⟩;obtain⟨i,k⟩:∃i,i=m.alloc (.cells #[RF,Ph 0,QB,Ph 0,RF] 29):=⟨_,rfl⟩;have s:PG m i:=by rw[k];exact QK
 have v:=Y (A.out.trans ((o.trans (s.mono o.size)).mono A.out.size));have w:=Y k;clear k;go_wp2;go_ret;refine⟨rfl,?_⟩;rw[<-w.out];exact Pj v):=Pq h;exact zn
theorem N1 (j:PS)(n:Rw e N M):PN 6 #[PI j] e λi d=>i=PY (PD true)/\PG e d:=by
 have l:=Dg RS Rq j e n.gl.li Yx n.gl.ta;have p:Hid (∀a,PG e a->PN 18 #[] a λi d=>i=PY (PD true)/\PG a d):=λa k=>WN a (n.fQ k).gl.li Yx (n.fQ k).gl.ta
 cases g:Tj RS Rq j with
 |ok b=>
  rw[g] at l;have v:=Y l;have z:Hid (∀f c a,PG e f->QT (gz e.heap.size) f b c->PG f a->PN 11 #[Pm c] a (Vu a b)):=λf c a k t o=>Wt (n.fQ (k.trans (o.mono k.size))) g (QT.fQ (Below.ht o) _ _ t);have R:=(Xf g).2
  have A:Hid (∀f c a,PG e f->QT (gz e.heap.size) f b c->PG f a->PN 19 #[Pm c] a λi d=>(∃u,i=PY u/\d.ownsRow 0 52 3 u (tl b.count b 0 [] false).length (Tc (tl b.count b 0 [] false)))/\PG a d):=λf c a k t o=>Oo (QT.fQ (Below.ht o) _ _ t) (x5 g) Pv
  cases r:hD b false false false with
  |some w=>
   exact aAG (g:=λa c=>QT (gz e.heap.size) a b c) j w v p (λf c a m q s=>(Pj z f c a m q s).mono λi d h=>Ls h r)
  |none=>
   have C:Bk b:=(Y5 g r).bk Pv;have E:=(zK C).2;refine aIi (aD:=λa c=>QT (gz e.heap.size) a b c) j (pM (Ui b).1) (pw (Ui b).2.M (Ui b).1) (Ui b).2.steps (Ui b).2.hF (Ui b).2.seen (tl b.count b 0 [] false) (rY b.count b 0 [] false) (aIj (Rb Yx g) Qq) (by have:=E.se;omega) (by have:=pY b.count b 0 [] false;omega) v p (λf c a m q s=>(Pj z f c a m q s).mono λi d h=>?_) A
   obtain⟨m,P,O,B,D,u⟩:=afD h r;obtain⟨I,F,rfl⟩:=P7 D;obtain⟨H,L,rfl⟩:=P7 u;exact⟨m,I,F,H,L,B,u⟩
 |«at» w b=>
  rw[g] at l;exact E2 j l p
 |bare=>
  rw[g] at l;exact E2 j l p
