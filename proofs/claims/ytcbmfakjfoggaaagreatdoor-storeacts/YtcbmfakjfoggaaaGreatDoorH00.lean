/- H00 -/
import Derived.Test.YtcbmfakjfoggaaaGreatDoorA0
set_option maxHeartbeats 0
set_option maxRecDepth 100000
namespace Go.Proofs.YtcbmfakjfoggaaaGreatDoor
open Go.Maps _root_.Go.Proofs.Tryz Go.RowKit
namespace Fr
def pw (k:Int):Int:=2^k.toNat
def al (a k:Int):Bool:=a/pw k*pw k==a
def Lf (a k:Int):Int:=if a/pw k%2=0 then a+pw k else a-pw k
def par (a k:Int):Int:=a/pw (k+1)*pw (k+1)
theorem orders (k:Int)(h0:0<=k)(h6:k<=6):k=0\/k=1\/k=2\/k=3\/k=4\/k=5\/k=6:=by omega
theorem UC:pw 0=1:=by decide
theorem Ol:pw 1=2:=by decide
theorem Om:pw 2=4:=by decide
theorem Oo:pw 3=8:=by decide
theorem GI:pw 4=16:=by decide
theorem GJ:pw 5=32:=by decide
theorem Qx:pw 6=64:=by decide
theorem zE (a k:Int):al a k=true↔a/pw k*pw k=a:=by simp[al]
theorem Qy:∀n:Fin 256,∀k:Fin 7,bits .or .i64 ((n.val:Nat):Int) ((2^k.val:Nat):Int)=if((n.val/2^k.val)%2=0)then((n.val+2^k.val:Nat):Int)else((n.val:Nat):Int):=by decide +kernel
theorem UD (a k:Int)(h0:0<=a)(G:a<256)(k0:0<=k)(k6:k<=5)(ha:al a (k+1)=true):bits .or .i64 a (pw k)=a+pw k:=by
 rw[zE]at ha;obtain⟨n,rfl⟩:=bw h0;have h:=Qy ⟨n,by omega⟩ ⟨k.toNat,by omega⟩;simp only at h;have e:((2^k.toNat:Nat):Int)=pw k:=by simp[pw]
 rw[e]at h;rw[h];have hz:n/2^k.toNat%2=0:=by
  rcases orders k k0 (by omega)with rfl|rfl|rfl|rfl|rfl|rfl|rfl<;>simp[pw]at ha ⊢ <;> omega
 rw[af hz,<- e];omega
end Fr
theorem qy {w:World}{a:Addr}{v:Value}(h:w.cell? a=some v):a.block<w.heap.size:=by
 rcases bC a.block w.heap.size with h'|h'
 ·exact h'
 ·simp[World.cell?,Array.getElem?_eq_none h']at h
theorem keep {w w':World}{a:Addr}{v:Value}(h:w.cell? a=some v)(J:Below w.heap.size w w'):w'.cell? a=some v:=by
 rw[J.cell (qy h)];exact h
structure kO (w:World)(e:Nat->Addr):Prop where
 bound:w.cell? ⟨1,0,none⟩=some (.iface 424 (.pointer (some (e 1))))
 shape:w.cell? ⟨0,0,none⟩=some (.iface 424 (.pointer (some (e 2))))
 none:w.cell? ⟨3,0,none⟩=some (.iface 424 (.pointer (some (e 3))))
theorem kO.below {w w':World}{e:Nat->Addr}(h:kO w e)(J:Below w.heap.size w w'):kO w' e:=⟨keep h.bound J,keep h.shape J,keep h.none J⟩
namespace Fr
theorem wT (a k:Int)(w:World)(h0:0<=a)(G:a<256)(k0:0<=k)(k6:k<=6)(ha:al a k=true):
  Calls prog 297 #[.agg #[.int .i64 a,.int .i64 k]] w λe w'=>e=.returned .nilIface/\w'=w.alloc (.cells #[.int .i64 a,.int .i64 k] 291):=by
 unfold al at ha;rcases orders k k0 k6 with rfl|rfl|rfl|rfl|rfl|rfl|rfl
 all_goals
  simp only[UC,Ol,Om,Oo,GI,GJ,Qx]at ha;go_enter func297,ntmps297;go_wp2;go_ret;exact⟨rfl,rfl⟩
end Fr
open Go.ChangeShapes Go.WideShapes
variable {W w:World}{e:Nat->Addr}
theorem own:ownKnob prog.godebug=none:=by kernel_rfl
theorem Lg:prog.cellsOf 442=1:=by kernel_rfl
theorem zF:prog.cellsOf 9=1:=by kernel_rfl
theorem wU : "*" ++ "errors.errorString" = "*errors.errorString":=by decide
theorem UE (u:TypeId)(h:prog.typeName? 3 u=some "*errors.errorString"):u=424 :=
 typeName_ptr_named (nm:= "errors.errorString") (by rw[wU];kernel_rfl) (by kernel_rfl) (by decide) u (by rw[wU];exact h)
def Found (W:World):List (String×List UInt8)->List Addr->List MemPlace->Prop
 |[],[],ps=>ps=[]
 |x::l,a::az,ps=>∃g q,prog.globalNamed x.1=some g/\W.cell? ⟨g,0,none⟩=some (.iface 424 (.pointer (some a)))/\Found W l az q/\ps=.cell g 0 :: .cell a.block a.off::q
 |_,_,_=>False
def Oq (x:String×List UInt8):String×DataW Unit:=(x.1,.iface "*errors.errorString" (.ptr (.agg [.lit (.string x.2)])))
theorem wV :∀(l:List (String×List UInt8)) (ps:List MemPlace),DataW.LaidVars prog W (l.map Oq) ps->(∀x∈l,∃g,prog.globalNamed x.1=some g/\(prog.globals[g]?).map (·.type)=some 29) ->
  (∀b off,MemPlace.cell b off∈ps->(∃c t,W.heap[b]?=some (.cells c t (0,0)))/\∀u v,W.cell? ⟨b,off,none⟩=some (.iface u v)->Value.okWide prog W .any 0 u v)->∃az,Found W l az ps
 |[],ps,h,_,_=>⟨[],h⟩
 |x::l,ps,h,hg,Ot=>by
  obtain⟨g0,t0,cs0,f0,p0,q0,hg0,zq,hv0,Gi,hq,e0⟩:=h;obtain⟨g,hga,Qz⟩:=hg x (bh ..);obtain rfl:=ah (hga.symm.trans hg0);obtain rfl:=ah (Qz.symm.trans zq);subst e0;obtain⟨l0⟩:=cs0;have ok0:∀u v,l0=[.iface u v]->Value.okWide prog W .any 0 u v:=λu v e=>by
   subst e;exact(Ot g 0 (by simp[MemPlace.row])).2 u v (by simpa using World.var?_cell hg0 hv0 0)
  obtain⟨a0,s0,rfl,hc0,hs0,hz0,rfl⟩:=errorString_of_trod underlying29 UE underlying424 underlying442 rfl rfl underlying9 Lg zF Gi ok0;obtain⟨az,has⟩:=wV l q0 hq (λy hy=>hg y (aD _ hy)) (λb off hm=>Ot b off (by simp[hm]));exact⟨a0::az,g,q0,hg0,by simpa using World.var?_cell hg0 hv0 0,has,by simp[MemPlace.row]⟩
theorem Found.mem :∀{l:List (String×List UInt8)} {az:List Addr} {ps:List MemPlace},Found W l az ps->∀a∈az,MemPlace.cell a.block a.off∈ps
 |[],[],_,_,_,ha=>by cases ha
 |_::_,_::_,_,⟨_,_,_,_,hf,rfl⟩,a,ha=>by
  rcases ae.1 ha with rfl|ha
  ·simp
  ·exact aD _ (aD _ (hf.mem a ha))
theorem Found.nodup :∀{l:List (String×List UInt8)} {az:List Addr} {ps:List MemPlace},Found W l az ps->ps.Nodup->az.Nodup
 |[],[],_,_,_=>dm
 |_::_,_::_,_,⟨_,_,_,_,hf,rfl⟩,hn=>by
  rw[a_]at hn;have Gj:=hn.2;rw[a_]at Gj;rw[a_];exact⟨λh=>Gj.1 (hf.mem _ h),hf.nodup Gj.2⟩
def uK:List (String×List UInt8):=[("slabyard/api.ErrText",[115,108,97,98,121,97,114,100,58,32,116,101,120,116]),("slabyard/api.ErrBound",[115,108,97,98,121,97,114,100,58,32,98,111,117,110,100]),("slabyard/api.ErrShape",[115,108,97,98,121,97,114,100,58,32,115,104,97,112,101]),("slabyard/api.ErrNone",[115,108,97,98,121,97,114,100,58,32,110,111,110,101]),("slabyard/api.ErrFull",[115,108,97,98,121,97,114,100,58,32,102,117,108,108]),("slabyard/api.ErrHeld",[115,108,97,98,121,97,114,100,58,32,104,101,108,100]),("slabyard/api.ErrLow",[115,108,97,98,121,97,114,100,58,32,108,111,119]),("slabyard/api.ErrWait",[115,108,97,98,121,97,114,100,58,32,119,97,105,116]),("slabyard/api.ErrStale",[115,108,97,98,121,97,114,100,58,32,115,116,97,108,101]),("slabyard/api.ErrMany",[115,108,97,98,121,97,114,100,58,32,109,97,110,121])]
theorem g0:prog.globalNamed "slabyard/api.ErrText" = some 10:=by kernel_rfl
theorem g1:prog.globalNamed "slabyard/api.ErrBound" = some 1:=by kernel_rfl
theorem g2:prog.globalNamed "slabyard/api.ErrShape" = some 0:=by kernel_rfl
theorem g3:prog.globalNamed "slabyard/api.ErrNone" = some 3:=by kernel_rfl
theorem g4:prog.globalNamed "slabyard/api.ErrFull" = some 6:=by kernel_rfl
theorem g5:prog.globalNamed "slabyard/api.ErrHeld" = some 4:=by kernel_rfl
theorem g6:prog.globalNamed "slabyard/api.ErrLow" = some 8:=by kernel_rfl
theorem g7:prog.globalNamed "slabyard/api.ErrWait" = some 7:=by kernel_rfl
theorem g8:prog.globalNamed "slabyard/api.ErrStale" = some 2:=by kernel_rfl
theorem g9:prog.globalNamed "slabyard/api.ErrMany" = some 5:=by kernel_rfl
theorem gt0:(prog.globals[10]?).map (·.type)=some 29:=by kernel_rfl
theorem gt1:(prog.globals[1]?).map (·.type)=some 29:=by kernel_rfl
theorem gt2:(prog.globals[0]?).map (·.type)=some 29:=by kernel_rfl
theorem gt3:(prog.globals[3]?).map (·.type)=some 29:=by kernel_rfl
theorem gt4:(prog.globals[6]?).map (·.type)=some 29:=by kernel_rfl
theorem gt5:(prog.globals[4]?).map (·.type)=some 29:=by kernel_rfl
theorem gt6:(prog.globals[8]?).map (·.type)=some 29:=by kernel_rfl
theorem gt7:(prog.globals[7]?).map (·.type)=some 29:=by kernel_rfl
theorem gt8:(prog.globals[2]?).map (·.type)=some 29:=by kernel_rfl
theorem gt9:(prog.globals[5]?).map (·.type)=some 29:=by kernel_rfl
structure dM (w:World)(e:Nat->Addr):Prop where
 v0:w.cell? ⟨10,0,none⟩=some (.iface 424 (.pointer (some (e 0))))
 v1:w.cell? ⟨1,0,none⟩=some (.iface 424 (.pointer (some (e 1))))
 v2:w.cell? ⟨0,0,none⟩=some (.iface 424 (.pointer (some (e 2))))
 v3:w.cell? ⟨3,0,none⟩=some (.iface 424 (.pointer (some (e 3))))
 v4:w.cell? ⟨6,0,none⟩=some (.iface 424 (.pointer (some (e 4))))
 v5:w.cell? ⟨4,0,none⟩=some (.iface 424 (.pointer (some (e 5))))
 v6:w.cell? ⟨8,0,none⟩=some (.iface 424 (.pointer (some (e 6))))
 v7:w.cell? ⟨7,0,none⟩=some (.iface 424 (.pointer (some (e 7))))
 v8:w.cell? ⟨2,0,none⟩=some (.iface 424 (.pointer (some (e 8))))
 v9:w.cell? ⟨5,0,none⟩=some (.iface 424 (.pointer (some (e 9))))
 blk:∀i,i<10->∃c t,w.heap[(e i).block]?=some (.cells c t (0,0))
 inj:∀i j,i<10->j<10->e i=e j->i=j
 Z_:w.cell? ⟨9,0,none⟩=some (.iface 342 (.agg #[.pointer (some ⟨12,29,none⟩)]))
 tab:∀j,j<64->w.cell? ⟨11,j,none⟩=some (.int .u8 ((Lib.deBruijn64tab.getD j 0:Nat):Int))
theorem dM.three (h:dM w e):kO w e:=⟨h.v1,h.v2,h.v3⟩
theorem dM.below {w':World}(h:dM w e)(J:Below w.heap.size w w'):dM w' e:=by
 refine⟨keep h.v0 J,keep h.v1 J,keep h.v2 J,keep h.v3 J,keep h.v4 J,keep h.v5 J,keep h.v6 J,keep h.v7 J,keep h.v8 J,keep h.v9 J,λi hi=>?_,h.inj,keep h.Z_ J,λj E=>keep (h.tab j E) J⟩;obtain⟨c,t,K⟩:=h.blk i hi;have:(e i).block<w.heap.size:=by
  rcases bC (e i).block w.heap.size with h'|h'
  ·exact h'
  ·rw[cx h']at K;cases K
 exact⟨c,t,by rw[J.block _ this];exact K⟩
theorem dM.alloc (h:dM w e)(o:Obj):dM (w.alloc o) e:=h.below ((γ _ _).alloc (ζ _) o)
theorem hEt:prog.globalNamed "errors.errorType" = some 9:=by kernel_rfl
theorem hRt:(prog.cutTypes.find? (·.1 == "internal/reflectlite.rtype")).map (·.2)=some 342:=by kernel_rfl
theorem Lh:((List.range 454).filter λt=>prog.rowNamed t [101,114,114,111,114])=[29]:=by kernel_rfl
theorem UG:prog.types.size=454:=by kernel_rfl
theorem uL (l:List Addr)(i:Nat)(d:Addr)(h:i<l.length):l.getD i d=l[i]:=by
 rw[au,ξ h,bY]
theorem D6 {x:String×DataW Unit}{l:List (String×DataW Unit)}(h:laidMet prog (x::l) W):laidMet prog l W:=by
 obtain⟨ps,⟨g,t,cs,fuel,p,q,_,_,_,_,h5,rfl⟩,hn,hr⟩:=h;exact⟨q,h5,(aF.1 hn).2.1,λb off hm=>hr b off (cX _ hm)⟩
theorem UH:prog.globalNamed "math/bits.deBruijn64tab" = some 11:=by kernel_rfl
theorem UI:(prog.globals[11]?).map (·.type)=some 368:=by kernel_rfl
theorem GK:prog.cellsOf 368=64:=by kernel_rfl
theorem QA:prog.cellsOf 5=1:=by kernel_rfl
theorem zG:(Rows.laid_math_bits_deBruijn64tab:DataW Unit)=Lib.tabData .u8 (Lib.deBruijn64tab.map Int.ofNat):=by rfl
theorem errs_of (h:laidMetH prog Rows.poolFairRow.laid W):∃e,dM W e:=by
 have h':laidMet prog (("math/bits.deBruijn64tab",Rows.laid_math_bits_deBruijn64tab)::uK.map Oq) W/\handlesMet prog [("errors.errorType",Rows.laid_errors_errorType)] W:=h;obtain⟨UJ,hh⟩:=h';have aaa:∀j,j<64->W.cell? ⟨11,j,none⟩=some (.int .u8 ((Lib.deBruijn64tab.getD j 0:Nat):Int)):=λj E=>by
  rw[zG]at UJ;have ht:=Lib.tabIs_of_head UH UI underlying368 underlying5 QA GK UJ;have:=ht.cell UH j (by simp[Lib.deBruijn64tab];omega);rw[this];congr 2;rw[au,au,dy];cases Lib.deBruijn64tab[j]? <;> rfl
 obtain⟨ps,hl,hn,hr⟩:=D6 UJ;obtain⟨name,u,ty,e1,e2,e3,e4,e5⟩:=hh _ (aw.2 rfl);have en:name=[101,114,114,111,114]:=(ah e1).symm;subst en;obtain rfl:=ah (hRt.symm.trans e2);have hm:ty∈(List.range 454).filter λt=>prog.rowNamed t [101,114,114,111,114]:=fO.2 ⟨fw.2 (by rw[<- UG];exact e3),e4⟩;rw[Lh]at hm;obtain rfl:=aw.1 hm;have hth:typeHandle prog 29=.pointer (some ⟨12,29,none⟩):=by kernel_rfl
 rw[hth]at e5;have hty:W.cell? ⟨9,0,none⟩=some (.iface 342 (.agg #[.pointer (some ⟨12,29,none⟩)])):=by simpa using World.var?_cell hEt e5 0
 obtain⟨az,hf⟩:=wV uK ps hl (by
  intro x hx;simp only[uK,ae,List.mem_nil_iff,dg]at hx;rcases hx with rfl|rfl|rfl|rfl|rfl|rfl|rfl|rfl|rfl|rfl
  ·exact⟨_,g0,gt0⟩
  ·exact⟨_,g1,gt1⟩
  ·exact⟨_,g2,gt2⟩
  ·exact⟨_,g3,gt3⟩
  ·exact⟨_,g4,gt4⟩
  ·exact⟨_,g5,gt5⟩
  ·exact⟨_,g6,gt6⟩
  ·exact⟨_,g7,gt7⟩
  ·exact⟨_,g8,gt8⟩
  ·exact⟨_,g9,gt9⟩) hr
 have hnd:=hf.nodup hn;have ql:=hf.mem
 match az,hf,hnd,ql with
 |[a0,a1,a2,a3,a4,a5,a6,a7,a8,a9],⟨x0,_,k0,c0,⟨x1,_,k1,c1,⟨x2,_,k2,c2,⟨x3,_,k3,c3,⟨x4,_,k4,c4,⟨x5,_,k5,c5,⟨x6,_,k6,c6,⟨x7,_,k7,c7,⟨x8,_,k8,c8,⟨x9,_,k9,c9,_,_⟩,_⟩,_⟩,_⟩,_⟩,_⟩,_⟩,_⟩,_⟩,_⟩,hnd,ql =>
  obtain rfl:=ah (g0.symm.trans k0);obtain rfl:=ah (g1.symm.trans k1);obtain rfl:=ah (g2.symm.trans k2);obtain rfl:=ah (g3.symm.trans k3);obtain rfl:=ah (g4.symm.trans k4);obtain rfl:=ah (g5.symm.trans k5);obtain rfl:=ah (g6.symm.trans k6);obtain rfl:=ah (g7.symm.trans k7);obtain rfl:=ah (g8.symm.trans k8);obtain rfl:=ah (g9.symm.trans k9);refine⟨λi=>[a0,a1,a2,a3,a4,a5,a6,a7,a8,a9].getD i a0,c0,c1,c2,c3,c4,c5,c6,c7,c8,c9,λi hi=>?_,λi j hi E he=>?_,hty,aaa⟩
  ·rw[uL _ _ _ (by simpa using hi)];exact(hr _ _ (ql _ (aO _))).1
  ·rw[uL _ _ _ (by simpa using hi),uL _ _ _ (by simpa using E)]at he;have hp:=cO.1 hnd;rcases eX i j with hlt|heq|Qz
   ·exact absurd he (hp i j (by simpa using hi) (by simpa using E) hlt)
   ·exact heq
   ·exact absurd he.symm (hp j i (by simpa using E) (by simpa using hi) Qz)
theorem door10 (os:Os)(args:Array Value):laidMetH prog Rows.poolFairRow.laid ((World.doorLaid prog 206 os).forCall (λ_ _=>0) ⟨#[],args,[]⟩).memory :=
 laidMetH_of_parts3 (fuel:=8) (laidMet_of_run' 8 (by kernel_rfl) (by kernel_rfl)) (by kernel_rfl) (by kernel_rfl)
end Go.Proofs.YtcbmfakjfoggaaaGreatDoor
namespace Go.Proofs.YtcbmfakjfoggaaaGreatDoor
open Go.Maps _root_.Go.Proofs.Tryz Go.RowKit
theorem I {p:Prop}(h:p):Hid p:=h
theorem Z {p:Prop}(h:Hid p):p:=h
namespace Fr
abbrev bV (a k:Int):Obj:=.cells #[.int .i64 a,.int .i64 k] 291
abbrev fJ (a k:Int):Value:=.agg #[.int .i64 a,.int .i64 k]
abbrev bc (p:Addr):Value:=.iface 424 (.pointer (some p))
end Fr
namespace Fr
theorem D_ (a k:Int)(w:World)(h0:0<=a)(G:a<256)(k0:1<=k)(k6:k<=6)(ha:al a k=true):
  Calls prog 283 #[.agg #[.int .i64 a,.int .i64 k]] w λe w'=>e=.returned (.tuple #[fJ a (k-1),fJ (a+pw (k-1)) (k-1),.nilIface])/\Below w.heap.size w w':=by
 have hx:=UD a (k-1) h0 G (by omega) (by omega) (by rw[show k-1+1=k from by omega];exact ha);rcases orders k (by omega) (by omega)with rfl|rfl|rfl|rfl|rfl|rfl|rfl
 all_goals first|omega|skip
 all_goals
  have H:=λw=>I (wT a _ w h0 G (by omega) k6 ha);simp only[Int.reduceSub,UC,Ol,Om,Oo,GI,GJ]at hx ⊢;clear ha k0 k6;go_enter func283,ntmps283;go_wp2_with (go_at_call 297;refine(Z (H _)).mono ?_;rintro e w'⟨rfl,rfl⟩);go_region
  go_wp2;exact Θ (v:=.tuple #[fJ a _,fJ _ _,.nilIface]) (by simp[results,results283,go_sem]) rfl ⟨rfl,by repeat (first|exact γ _ _|refine Below.drew ?_|refine Below.setCell ?_ (by simp) _|refine Below.alloc ?_ (by simp;try omega) _)⟩
theorem χ {w w':World}(h:Below w.heap.size w w')(o:Obj):Below w.heap.size w (w'.alloc o):=h.alloc h.size o
theorem bW {w w1 w2:World}(h:Below w.heap.size w w1)(k:Below w1.heap.size w1 w2):Below w.heap.size w w2:=h.trans (k.mono h.size)
structure Li (w:World)(b:Nat)(a k:Int):Prop where
 c0:w.cell? ⟨b,0,none⟩=some (.int .i64 a)
 c1:w.cell? ⟨b,1,none⟩=some (.int .i64 k)
 lt:b<w.heap.size
theorem oM (w:World)(a k:Int):Li (w.alloc (bV a k)) w.heap.size a k:=⟨by simp,by simp,by simp⟩
theorem Li.b {w w':World}{b:Nat}{a k:Int}(h:Li w b a k)(J:Below w.heap.size w w'):Li w' b a k :=
 ⟨by rw[J.cell (p:=⟨b,0,none⟩) h.lt];exact h.c0,by rw[J.cell (p:=⟨b,1,none⟩) h.lt];exact h.c1,ι h.lt J.size⟩
theorem Li.a {w:World}{b:Nat}{a k:Int}(h:Li w b a k)(o:Obj):Li (w.alloc o) b a k:=h.b (χ (γ _ _) o)
theorem cy (k:Int):0<pw k:=by unfold pw;exact Int.pow_pos (by omega)
theorem iJ (k:Int)(h:0<=k):pw (k+1)=2*pw k:=by
 unfold pw;rw[show(k+1).toNat=k.toNat+1 from by omega,Int.pow_succ];omega
theorem Ou (k:Int)(h0:0<=k)(h:k<=5):pw k<=32:=by
 rcases orders k h0 (by omega)with rfl|rfl|rfl|rfl|rfl|rfl|rfl<;>first|omega|decide
theorem lB (k:Int)(h0:0<=k)(h:k<=6):pw k<=64:=by
 rcases orders k h0 (by omega)with rfl|rfl|rfl|rfl|rfl|rfl|rfl<;>decide
theorem uM (k:Int)(w:World)(h0:0<=k)(G:k<=6):Calls prog 235 #[.int .i64 k] w λev w'=>ev=.returned (.bool true)/\w'=w:=by
 go_enter func235,ntmps235;go_wp2;go_ret;exact⟨rfl,rfl⟩
theorem iN (k:Int)(w:World)(h0:0<=k)(G:k<=6):Calls prog 249 #[.int .i64 k] w λev w'=>ev=.returned (.int .i64 (pw k))/\w'=w:=by
 obtain⟨n,rfl⟩:=bw h0;go_enter func249,ntmps249;go_wp2;go_loop [3,4] (λp i=>∃j:Nat,j<=n/\i=.int .i64 j/\p=.int .i64 (pw j)) (λ_ i=>n-(intOf i).toNat);case atStart=>exact⟨0,Γ _,rfl,rfl⟩
 case round =>
  obtain⟨j,E,rfl,rfl⟩:=hrel;have hs:=I (iJ j (by omega));have hp:=cy j;by_cases hlt:j<n
  ·have hle:=Ou j (by omega) (by omega);go_wp2;go_round;case rel=>exact⟨j+1,by omega,by go_num,by rw[show(((j+1:Nat):Int))=(j:Int)+1 from by omega,Z hs]⟩
   case measure=>simp[intOf];omega
  ·obtain rfl:j=n:=by omega
   go_wp2;go_ret;exact⟨rfl,rfl⟩
def cond (a r j:Int):Bool:=al a j&&decide (pw j<=r)
def wid (a r:Int):Int :=
 if cond a r 1 then(if cond a r 2 then(if cond a r 3 then(if cond a r 4 then(if cond a r 5 then(if cond a r 6 then 6 else 5)else 4)else 3)else 2)else 1)else 0
def upto (a r j:Int):Prop:=∀i,1<=i->i<=j->cond a r i=true
theorem tE (a r:Int):upto a r 0:=λi G O=>by omega
theorem tF {a r j:Int}(h:upto a r j)(K:cond a r (j+1)=true):upto a r (j+1):=λi G O=>by
 by_cases c:i=j+1
 ·rw[c];exact K
 ·exact h i G (by omega)
theorem GL {a r j:Int}(h:upto a r j)(h0:0<=j)(h6:j<=6)(he:j=6\/cond a r (j+1)=false):wid a r=j:=by
 rcases orders j h0 h6 with rfl|rfl|rfl|rfl|rfl|rfl|rfl
 ·have c1:cond a r 1=false:=by rcases he with h|h;omega;exact h
  simp[wid,c1]
 ·have c2:cond a r 2=false:=by rcases he with h|h;omega;exact h
  simp[wid,h 1 (by omega) (by omega),c2]
 ·have c3:cond a r 3=false:=by rcases he with h|h;omega;exact h
  simp[wid,h 1 (by omega) (by omega),h 2 (by omega) (by omega),c3]
 ·have c4:cond a r 4=false:=by rcases he with h|h;omega;exact h
  simp[wid,h 1 (by omega) (by omega),h 2 (by omega) (by omega),h 3 (by omega) (by omega),c4]
 ·have c5:cond a r 5=false:=by rcases he with h|h;omega;exact h
  simp[wid,h 1 (by omega) (by omega),h 2 (by omega) (by omega),h 3 (by omega) (by omega),h 4 (by omega) (by omega),c5]
 ·have c6:cond a r 6=false:=by rcases he with h|h;omega;exact h
  simp[wid,h 1 (by omega) (by omega),h 2 (by omega) (by omega),h 3 (by omega) (by omega),h 4 (by omega) (by omega),h 5 (by omega) (by omega),c6]
 ·simp[wid,h 1 (by omega) (by omega),h 2 (by omega) (by omega),h 3 (by omega) (by omega),h 4 (by omega) (by omega),h 5 (by omega) (by omega),h 6 (by omega) (by omega)]
theorem Lj (a:Int):al a 0=true:=by simp[al,UC]
theorem iw (a r:Int)(hr:1<=r):0<=wid a r/\wid a r<=6/\al a (wid a r)=true/\pw (wid a r)<=r:=by
 have hz:0<=(0:Int)/\(0:Int)<=6/\al a 0=true/\pw 0<=r:=⟨by omega,by omega,Lj a,by rw[UC];omega⟩;have K:∀j,0<=j->j<=6->cond a r j=true->0<=j/\j<=6/\al a j=true/\pw j<=r:=λj h0 h6 h=>by
  simp[cond]at h;exact⟨h0,h6,h.1,h.2⟩
 unfold wid;by_cases c1:cond a r 1=true
 ·rw[af c1];by_cases c2:cond a r 2=true
  ·rw[af c2];by_cases c3:cond a r 3=true
   ·rw[af c3];by_cases c4:cond a r 4=true
    ·rw[af c4];by_cases c5:cond a r 5=true
     ·rw[af c5];by_cases c6:cond a r 6=true
      ·rw[af c6];exact K 6 (by omega) (by omega) c6
      ·rw[ai c6];exact K 5 (by omega) (by omega) c5
     ·rw[ai c5];exact K 4 (by omega) (by omega) c4
    ·rw[ai c4];exact K 3 (by omega) (by omega) c3
   ·rw[ai c3];exact K 2 (by omega) (by omega) c2
  ·rw[ai c2];exact K 1 (by omega) (by omega) c1
 ·rw[ai c1];exact hz
def Cc:Nat->Int->Int->List (Int×Int)
 |0,_,_=>[]
 |f+1,a,r=>if r<=0 then[]else(a,wid a r)::Cc f (a+pw (wid a r)) (r-pw (wid a r))
theorem Ce:∀(f g:Nat) (a r:Int),r.toNat<=f->r.toNat<=g->Cc f a r=Cc g a r
 |0,0,_,_,_,_=>rfl
 |0,g+1,a,r,h,_=>by
  have hr:r<=0:=by omega
  simp[Cc,hr]
 |f+1,0,a,r,_,h=>by
  have hr:r<=0:=by omega
  simp[Cc,hr]
 |f+1,g+1,a,r,G,O=>by
  by_cases hr:r<=0
  ·simp[Cc,hr]
  ·have hw:=iw a r (by omega);have hp:=cy (wid a r);simp only[Cc,ai hr];rw[Ce f g _ _ (by omega) (by omega)]
theorem GM (f:Nat)(a r:Int)(h:r.toNat<=f):Cc f a r=Cc r.toNat a r:=Ce _ _ _ _ h (ζ _)
def cv (a r:Int):List (Int×Int):=Cc r.toNat a r
theorem zH (a r:Int)(h:r<=0):cv a r=[]:=by
 unfold cv;rw[show r.toNat=0 from by omega];rfl
theorem uN (a r:Int)(h:1<=r):cv a r=(a,wid a r)::cv (a+pw (wid a r)) (r-pw (wid a r)):=by
 have hp:=cy (wid a r);unfold cv;obtain⟨g,hg⟩:∃g,r.toNat=g+1:=⟨r.toNat-1,by omega⟩;rw[hg];simp only[Cc,ai (show ¬r<=0 by omega)];rw[GM g _ _ (by omega)]
def flat (l:List (Int×Int)):List Value:=l.flatMap λx=>[.int .i64 x.1,.int .i64 x.2]
theorem dP (l:List (Int×Int))(x:Int×Int):flat (l++[x])=flat l++[.int .i64 x.1,.int .i64 x.2]:=by simp[flat]
theorem cd (l:List (Int×Int)):(flat l).length=l.length*2:=by
 induction l with
 |nil=>rfl
 |cons x l ih=>simp[flat]at ih ⊢;omega
theorem gO:∀(l:List (Int×Int)) (i:Nat) (h:i<l.length),(flat l)[2*i]?=some (.int .i64 (l[i]).1)/\(flat l)[2*i+1]?=some (.int .i64 (l[i]).2)
 |x::l,0,_=>by simp[flat]
 |x::l,i+1,h=>by
  have:=gO l i (by simpa using h);have e1:2*(i+1)=2*i+2:=by omega
  rw[e1];simp only[flat,List.flatMap_cons,List.getElem_cons_succ]at this ⊢;simpa using this
theorem qM:∀(f:Nat) (a r:Int),(Cc f a r).length<=f
 |0,_,_=>by simp[Cc]
 |f+1,a,r=>by
  unfold Cc;split
  ·simp
  ·have:=qM f (a+pw (wid a r)) (r-pw (wid a r));simp;omega
theorem oO (a r:Int):(cv a r).length<=r.toNat:=qM _ _ _
end Fr
namespace Bd
open Fr
variable {N j p:Int}{w w':World}{A B F fm n:Nat}
abbrev Bl:=Int×Int
def pP (l:List Bl):Prop:=l.Pairwise (λx y=>x.1<y.1)
def ins (x:Bl):List Bl->List Bl
 |[]=>[x]
 |y::l=>if x.1<y.1 then x::y::l else if x.1=y.1 then x::l else y::ins x l
def del (a:Int)(l:List Bl):List Bl:=l.filter (λy=>y.1!=a)
def sy (p:Int)(x:Bl):Nat:=if x.1<=p/\p<x.1+pw x.2 then 1 else 0
def cnt (p:Int):List Bl->Nat
 |[]=>0
 |x::l=>sy p x+cnt p l
def zI (x:Bl):Prop:=0<=x.2/\x.2<=6/\pw x.2 ∣ x.1
def ind (N p:Int):Nat:=if 0<=p/\p<N then 1 else 0
theorem iJ (k:Int)(h:0<=k):pw (k+1)=2*pw k:=by
 unfold pw;rw[show(k+1).toNat=k.toNat+1 from by omega,Int.pow_succ];omega
theorem zJ {i:Int}(_h0:0<=i)(h:i<=j):pw i ∣ pw j:=by
 unfold pw;obtain⟨n,hn⟩:∃n:Nat,j.toNat=i.toNat+n:=⟨j.toNat-i.toNat,by omega⟩;rw[hn,Int.pow_add];exact Int.dvd_mul_right _ _
theorem uO (a k:Int):al a k=true↔pw k ∣ a:=by
 rw[zE];have:=cy k;constructor
 ·intro h;exact⟨a/pw k,by rw[Int.mul_comm];exact h.symm⟩
 ·intro h;exact Int.ediv_mul_cancel h
theorem uP:pP []:=List.Pairwise.nil
theorem ft {x:Bl}{l:List Bl}:pP (x::l)↔(∀y∈l,x.1<y.1)/\pP l:=List.pairwise_cons
theorem fZ {x:Bl}{l:List Bl}{y:Bl}(h:y∈ins x l):y=x\/y∈l:=by
 induction l with
 |nil=>simp[ins]at h;exact ε h
 |cons z l ih =>
  unfold ins at h;split at h
  ·rcases ae.1 h with h|h
   ·exact ε h
   ·exact δ h
  ·split at h
   ·rcases ae.1 h with h|h
    ·exact ε h
    ·exact δ (aD _ h)
   ·rcases ae.1 h with h|h
    ·exact δ (by rw[h];exact bh ..)
    ·rcases ih h with h|h
     ·exact ε h
     ·exact δ (aD _ h)
theorem nI (x : Bl) (l : List Bl) : x ∈ ins x l := by
  induction l with
  | nil => simp [ins]
  | cons z l ih => unfold ins; split; · simp
                   · split <;> simp [ih]
theorem sA {x y:Bl}{l:List Bl}(h:y∈l)(hne:y.1≠x.1):y∈ins x l:=by
 induction l with
 |nil=>cases h
 |cons z l ih =>
  unfold ins;split
  ·exact aD _ h
  ·split
   ·rcases ae.1 h with rfl|h
    ·omega
    ·exact aD _ h
   ·rcases ae.1 h with rfl|h
    ·exact bh ..
    ·exact aD _ (ih h)
theorem uQ {x:Bl}{l:List Bl}(h:pP l):pP (ins x l):=by
 induction l with
 |nil=>simp[ins,pP]
 |cons z l ih =>
  rw[ft]at h;unfold ins;split
  ·rw[ft];refine⟨λy hy=>?_,ft.2 h⟩;rcases ae.1 hy with rfl|hy
   ·assumption
   ·have:=h.1 y hy;omega
  ·split
   ·rw[ft];exact⟨λy hy=>by have:=h.1 y hy;omega,h.2⟩
   ·rw[ft];refine⟨λy hy=>?_,ih h.2⟩;rcases fZ hy with rfl|hy
    ·omega
    ·exact h.1 y hy
theorem Cg {a:Int}{l:List Bl}(h:pP l):pP (del a l):=h.filter _
theorem nJ {a:Int}{l:List Bl}{y:Bl}:y∈del a l↔y∈l/\y.1≠a:=by simp[del]
theorem je:∀{l:List Bl} {a b:Int},pP l->(∀x∈l,a<=x.1/\x.1<b)->l.length<=(b-a).toNat
 |[],_,_,_,_=>by simp
 |x::l,a,b,h,J=>by
  rw[ft]at h;have G:=J x (bh ..);have:=je (l:=l) (a:=x.1+1) (b:=b) h.2 (λy hy=>⟨by have:=h.1 y hy;omega,(J y (aD _ hy)).2⟩);simp;omega
theorem aab (p:Int)(x:Bl):sy p x<=1:=by unfold sy;split<;>omega
theorem zK (x:Bl):sy x.1 x=1:=by unfold sy;have:=cy x.2;rw[af (by omega)]
theorem qz {x:Bl}:sy p x=1↔x.1<=p/\p<x.1+pw x.2:=by unfold sy;split<;>simp_all
theorem nK {l:List Bl}{x:Bl}(h:x∈l):sy p x<=cnt p l:=by
 induction l with
 |nil=>cases h
 |cons y l ih =>
  rcases ae.1 h with rfl|h
  ·simp[cnt]
  ·have:=ih h;simp[cnt];omega
theorem Ch (p:Int){x:Bl}{l:List Bl}(h:∀y∈l,y.1≠x.1):cnt p (ins x l)=sy p x+cnt p l:=by
 induction l with
 |nil=>simp[ins,cnt]
 |cons y l ih =>
  have G:=h y (bh ..);unfold ins;split
  ·simp[cnt]
  ·split
   ·omega
   ·have:=ih (λz hz=>h z (aD _ hz));simp[cnt];omega
theorem lC {a:Int}{l:List Bl}(h:∀y∈l,y.1≠a):del a l=l:=by
 unfold del;rw[cG];intro y hy;simpa using h y hy
theorem Ll (p:Int){x:Bl}{l:List Bl}(hs:pP l)(h:x∈l):cnt p (del x.1 l)+sy p x=cnt p l:=by
 induction l with
 |nil=>cases h
 |cons y l ih =>
  rw[ft]at hs;rcases ae.1 h with G|h
  ·subst G;have e:del x.1 (x::l)=l:=by
    show List.filter _ (x::l)=l;rw[bZ];simp only[bne_self_eq_false,gU,if_false];exact lC (a:=x.1) (λy hy=>by have:=hs.1 y hy;omega)
   rw[e];simp[cnt];omega
  ·have:=hs.1 x h;have e:del x.1 (y::l)=y::del x.1 l:=by
    show List.filter _ (y::l)=y::List.filter _ l;rw[bZ,af (by simp only[bne_iff_ne,ne_eq];omega)]
   rw[e];have:=ih hs.2 h;simp[cnt];omega
structure jL (N:Int)(aca T:List Bl)(x:Bl):Prop where
 sF:pP aca
 sT:pP T
 oF:∀y∈aca,zI y
 oT:∀y∈T,zI y
 ox:zI x
 one:∀p,cnt p aca+cnt p T+sy p x=ind N p
 Yy:∀y∈aca,y.2<6->(Lf y.1 y.2,y.2)∉aca
structure Inv (N:Int)(aca T:List Bl):Prop where
 sF:pP aca
 sT:pP T
 oF:∀y∈aca,zI y
 oT:∀y∈T,zI y
 one:∀p,cnt p aca+cnt p T=ind N p
 Yy:∀y∈aca,y.2<6->(Lf y.1 y.2,y.2)∉aca
theorem uR (N p:Int):ind N p<=1:=by unfold ind;split<;>omega
theorem uS :ind N p=1↔0<=p/\p<N:=by unfold ind;split<;>simp_all
theorem nL {x:Bl}(h:∀p,sy p x<=ind N p):0<=x.1/\x.1+pw x.2<=N:=by
 have G:=h x.1;rw[zK]at G;have O:=h (x.1+pw x.2-1);have hp:=cy x.2;rw[qz.2 ⟨by omega,by omega⟩]at O;have q1:=uS.1 (Nat.le_antisymm (uR N x.1) G);have q2:=uS.1 (Nat.le_antisymm (uR N _) O);exact⟨q1.1,by omega⟩
theorem Inv.Ov {aca T:List Bl}(h:Inv N aca T){x:Bl}(hx:x∈aca):0<=x.1/\x.1+pw x.2<=N :=
 nL λp=>by have:=nK (p:=p) hx;have:=h.one p;omega
theorem Inv.inT {aca T:List Bl}(h:Inv N aca T){x:Bl}(hx:x∈T):0<=x.1/\x.1+pw x.2<=N :=
 nL λp=>by have:=nK (p:=p) hx;have:=h.one p;omega
theorem jL.Ov {aca T:List Bl}{z:Bl}(h:jL N aca T z){x:Bl}(hx:x∈aca):0<=x.1/\x.1+pw x.2<=N :=
 nL λp=>by have:=nK (p:=p) hx;have:=h.one p;omega
theorem jL.inX {aca T:List Bl}{z:Bl}(h:jL N aca T z):0<=z.1/\z.1+pw z.2<=N :=
 nL λp=>by have:=h.one p;omega
theorem jL.wW {aca T:List Bl}{z:Bl}(h:jL N aca T z){y:Bl}(hy:y∈aca):¬(z.1<=y.1/\y.1<z.1+pw z.2):=λc=>by
 have G:=nK (p:=y.1) hy;rw[zK]at G;have O:=h.one y.1;rw[qz.2 c]at O;have:=uR N y.1;omega
theorem jL.GN {aca T:List Bl}{z:Bl}(h:jL N aca T z){y:Bl}(hy:y∈T):¬(z.1<=y.1/\y.1<z.1+pw z.2):=λc=>by
 have G:=nK (p:=y.1) hy;rw[zK]at G;have O:=h.one y.1;rw[qz.2 c]at O;have:=uR N y.1;omega
theorem Inv.zL {aca T:List Bl}(h:Inv N aca T){x:Bl}(hx:x∈aca):jL N (del x.1 aca) T x :=
 ⟨Cg h.sF,h.sT,λy hy=>h.oF y (nJ.1 hy).1,h.oT,h.oF x hx,λp=>by have:=Ll p h.sF hx;have:=h.one p;omega,
 λy hy h6 J=>h.Yy y (nJ.1 hy).1 h6 (nJ.1 J).1⟩
theorem jL.Ci {aca T:List Bl}{x:Bl}(h:jL N aca T x):Inv N aca (ins x T):=
 ⟨h.sF,uQ h.sT,h.oF,λy hy=>by rcases fZ hy with rfl|hy;exact h.ox;exact h.oT y hy,
 λp=>by rw[Ch p (λy hy=>λe=>h.GN hy (by rw[e];have:=cy x.2;omega))];have:=h.one p;omega,h.Yy⟩
theorem qN {a k:Int}(k1:1<=k)(h:pw k ∣ a):pw (k-1) ∣ a/\pw (k-1) ∣ a+pw (k-1)/\pw k=2*pw (k-1):=by
 have G:pw (k-1) ∣ a:=Int.dvd_trans (zJ (by omega) (by omega)) h;have O:=iJ (k-1) (by omega);rw[show k-1+1=k from by omega]at O;exact⟨G,Int.dvd_add G (Int.dvd_refl _),O⟩
theorem wX {a k:Int}(k0:0<=k)(h:pw (k+1) ∣ a):a/pw k%2=0:=by
 obtain⟨c,rfl⟩:=h;have hp:=cy k;rw[iJ k k0,show 2*pw k*c=pw k*(2*c)from by rw[Int.mul_comm 2 (pw k),Int.mul_assoc],Int.mul_ediv_cancel_left _ (by omega)];omega
theorem uT {a k:Int}(k0:0<=k)(h:pw (k+1) ∣ a):Lf a k=a+pw k:=by
 unfold Lf;rw[af (wX k0 h)]
theorem qO {a k:Int}(k0:0<=k)(h:pw (k+1) ∣ a):Lf (a+pw k) k=a:=by
 have hp:=cy k;unfold Lf;have e:(a+pw k)/pw k=a/pw k+1:=Int.add_ediv_of_dvd_right (Int.dvd_refl _)|>.trans (by rw[Int.ediv_self (by omega)])
 have:=wX k0 h;rw[ai (by rw[e];omega)];omega
theorem pQ {a k:Int}(k0:0<=k)(h:pw k ∣ a):pw (k+1) ∣ a\/pw (k+1) ∣ a-pw k:=by
 obtain⟨c,rfl⟩:=h;rw[iJ k k0];rcases(by omega:c%2=0\/c%2=1)with e|e
 ·left;obtain⟨d,rfl⟩:∃d,c=2*d:=⟨c/2,by omega⟩;exact⟨d,by rw[Int.mul_comm 2 (pw k),Int.mul_assoc]⟩
 ·right;obtain⟨d,rfl⟩:∃d,c=2*d+1:=⟨c/2,by omega⟩;exact⟨d,by rw[Int.mul_add,Int.mul_comm 2 (pw k),Int.mul_assoc];omega⟩
theorem zM (p a k:Int)(h:0<=k):sy p (a,k+1)=sy p (a,k)+sy p (a+pw k,k):=by
 have:=iJ k h;have:=cy k;unfold sy;simp only;by_cases c1:a<=p/\p<a+pw (k+1)
 ·rw[af c1];by_cases c2:p<a+pw k
  ·rw[af ⟨c1.1,c2⟩,ai (by omega)]
  ·rw[ai (by omega),af (by omega)]
 ·rw[ai c1,ai (by omega),ai (by omega)]
theorem jL.Cj {aca T:List Bl}{a k:Int}(h:jL N aca T (a,k))(k1:1<=k):jL N (ins (a+pw (k-1),k-1) aca) T (a,k-1):=by
 obtain⟨Gk,Lm,Ox⟩:=qN k1 h.ox.2.2;have hp:=cy (k-1);have QB:pw (k-1+1) ∣ a:=by rw[show k-1+1=k from by omega];exact h.ox.2.2
 have ho:=h.ox;unfold zI at ho;simp only at ho Gk Lm Ox;have off:∀y∈aca,y.1≠a/\y.1≠a+pw (k-1):=λy hy=>by
  have:=h.wW hy;simp only at this;constructor<;>omega
 refine⟨uQ h.sF,h.sT,λy hy=>?_,h.oT,⟨by simp only;omega,by simp only;omega,Gk⟩,λp=>?_,λy hy h6 J=>?_⟩
 ·rcases fZ hy with rfl|hy
  ·exact⟨by simp only;omega,by simp only;omega,Lm⟩
  ·exact h.oF y hy
 ·rw[Ch p (λy hy=>(off y hy).2)];have G:=h.one p;have O:=zM p a (k-1) (by omega);rw[show k-1+1=k from by omega]at O;omega
 ·rcases fZ hy with rfl|hy
  ·simp only at J;rw[qO (by omega) QB]at J;rcases fZ J with e|J
   ·have:=ba Prod.fst e;simp only at this;omega
   ·exact(off _ J).1 rfl
  ·rcases fZ J with e|J
   ·have e1:=ba Prod.fst e;have e2:=ba Prod.snd e;simp only at e1 e2;have:y.1=a:=by
     have ey:=h.oF y hy;unfold zI at ey;rcases pQ (k:=y.2) (by omega) ey.2.2 with c|c
     ·rw[uT (by omega) c]at e1;rw[e2]at e1;omega
     ·have:=qO (a:=y.1-pw y.2) (by omega) c;rw[show y.1-pw y.2+pw y.2=y.1 from by omega]at this;rw[this]at e1;rw[e2]at e1 c;exfalso;rw[e1]at c;have c2:=Int.dvd_sub c QB;rw[show a+pw (k-1)-a=pw (k-1)from by omega,iJ (k-1) (by omega)]at c2;have:=Int.le_of_dvd (by omega) c2;omega
    exact(off y hy).1 this
   ·exact h.Yy y hy h6 J
theorem Ln {a r:Int}(j0:0<=j)(j6:j<=6)(hd:pw j ∣ a)(hr:pw j<=r):j<=wid a r:=by
 have hp:=cy j;have hw:=iw a r (by omega);refine eu.1 λhlt=>?_;have K:∀i,0<=i->i<=j->Fr.cond a r i=true:=λi h0 hi=>by
  have:=Int.le_of_dvd hp (zJ h0 hi);simp only[Fr.cond,eG,dh];exact⟨(uO _ _).2 (Int.dvd_trans (zJ h0 hi) hd),by omega⟩
 have hu:∀i,0<=i->i<j->(i=6\/Fr.cond a r (i+1)=false)->False:=λi h0 hi h=>by
  rcases h with h|h
  ·omega
  ·rw[K (i+1) (by omega) (by omega)]at h;cases h
 have c:=λi h0 hi=>K i h0 hi;unfold wid at hlt;rcases orders j j0 j6 with rfl|rfl|rfl|rfl|rfl|rfl|rfl
 ·have:=hw.1;unfold wid at this;omega
 ·rw[af (c 1 (by omega) (by omega))]at hlt
  repeat (split at hlt)
  all_goals omega
 ·rw[af (c 1 (by omega) (by omega)),af (c 2 (by omega) (by omega))]at hlt
  repeat (split at hlt)
  all_goals omega
 ·rw[af (c 1 (by omega) (by omega)),af (c 2 (by omega) (by omega)),af (c 3 (by omega) (by omega))]at hlt
  repeat (split at hlt)
  all_goals omega
 ·rw[af (c 1 (by omega) (by omega)),af (c 2 (by omega) (by omega)),af (c 3 (by omega) (by omega)),af (c 4 (by omega) (by omega))]at hlt
  repeat (split at hlt)
  all_goals omega
 ·rw[af (c 1 (by omega) (by omega)),af (c 2 (by omega) (by omega)),af (c 3 (by omega) (by omega)),af (c 4 (by omega) (by omega)),af (c 5 (by omega) (by omega))]at hlt
  repeat (split at hlt)
  all_goals omega
 ·rw[af (c 1 (by omega) (by omega)),af (c 2 (by omega) (by omega)),af (c 3 (by omega) (by omega)),af (c 4 (by omega) (by omega)),af (c 5 (by omega) (by omega)),af (c 6 (by omega) (by omega))]at hlt;omega
def seg (a t p:Int):Nat:=if a<=p/\p<t then 1 else 0
theorem GP:∀(n:Nat) (a r:Int),r.toNat=n->pP (cv a r)/\(∀p,cnt p (cv a r)=seg a (a+r) p)/\∀x∈cv a r,a<=x.1/\x.1+pw x.2<=a+r/\zI x/\x.2=wid x.1 (a+r-x.1):=by
 intro n
 induction n using Nat.strongRecOn with
 |_ n ih =>
  intro a r hn;by_cases hr:r<=0
  ·rw[zH a r hr];refine⟨uP,λp=>?_,λx hx=>by cases hx⟩;unfold seg;rw[ai (by omega)];rfl
  ·have hw:=iw a r (by omega);have hp:=cy (wid a r);obtain⟨G,O,h3⟩:=ih (r-pw (wid a r)).toNat (by omega) (a+pw (wid a r)) (r-pw (wid a r)) rfl;rw[show a+pw (wid a r)+(r-pw (wid a r))=a+r by omega]at O h3;rw[uN a r (by omega)];refine⟨ft.2 ⟨λy hy=>by have:=(h3 y hy).1;simp only;omega,G⟩,λp=>?_,λx hx=>?_⟩
   ·simp only[cnt];rw[O];unfold sy seg;simp only;by_cases c1:a<=p/\p<a+pw (wid a r)
    ·rw[af c1,ai (by omega),af (by omega)]
    ·rw[ai c1];by_cases c2:a+pw (wid a r)<=p/\p<a+r
     ·rw[af c2,af (by omega)]
     ·rw[ai c2,ai (by omega)]
   ·rcases ae.1 hx with rfl|hx
    ·refine⟨Int.le_refl _,by simp only;omega,⟨hw.1,hw.2.1,(uO _ _).1 hw.2.2.1⟩,?_⟩;simp only;rw[show a+r-a=r by omega]
    ·have:=h3 x hx;exact⟨by omega,this.2.1,this.2.2⟩
theorem GQ (N:Int)(_h0:0<=N):Inv N (cv 0 N) []:=by
 obtain⟨G,O,h3⟩:=GP N.toNat 0 N rfl;rw[show(0:Int)+N=N by omega]at O h3;refine⟨G,uP,λy hy=>(h3 y hy).2.2.1,λy hy=>(by cases hy),λp=>(by rw[O];rfl),λy hy h6 J=>?_⟩;have key:∀a k:Int,0<=k->k<6->pw (k+1) ∣ a->(a,k)∈cv 0 N->(a+pw k,k)∈cv 0 N->False:=λa k k0 k6 hd q1 q2=>by
  have e1:=(h3 _ q1).2.2.2;have e2:=(h3 _ q2).2.1;simp only at e1 e2;have hs:=iJ k k0;have:=Ln (a:=a) (r:=N-a) (j:=k+1) (by omega) (by omega) hd (by omega);omega
 have ho:=(h3 y hy).2.2.1;unfold zI at ho;rcases pQ ho.1 ho.2.2 with c|c
 ·rw[uT ho.1 c]at J;exact key y.1 y.2 ho.1 h6 c hy J
 ·have e:=qO ho.1 c;rw[show y.1-pw y.2+pw y.2=y.1 by omega]at e;rw[e]at J;exact key (y.1-pw y.2) y.2 ho.1 h6 c J (by rw[show y.1-pw y.2+pw y.2=y.1 by omega];exact hy)
theorem wY {x:Bl}:∀{l:List Bl},(∀y∈l,y.1<x.1)->ins x l=l++[x]
 |[],_=>rfl
 |y::l,h=>by
  have G:=h y (bh ..);unfold ins;rw[ai (by omega),ai (by omega),wY (λz hz=>h z (aD _ hz))];rfl
theorem GR {L:List Bl}(h:pP L){j:Nat}(E:j<L.length):ins L[j] (L.take j)=L.take (j+1):=by
 rw[aL E];refine wY (λy hy=>?_);obtain⟨m,hm,rfl⟩:=bU hy;have hm2:m<j:=by simp at hm;omega
 rw[List.getElem_take];exact cO.1 h m j (by omega) E hm2
def fS:List Bl->Int
 |[]=>0
 |x::l=>pw x.2+fS l
def wZ (x:Bl):Lit×DataW Unit:=(.int .i64 x.1,.lit (.int .i64 x.2))
def qP (L:List Bl):DataW Unit:=.map (L.map wZ)
theorem lD (a b:Int):(Lit.int .i64 a).sameKey (.int .i64 b)=(a==b):=by
 by_cases h:a=b<;>simp[Lit.sameKey,h]
theorem qQ (a:Int)(L:List Bl):(L.map wZ).filter (λp=>!p.1.sameKey (.int .i64 a))=(del a L).map wZ:=by
 unfold del;rw[List.filter_map];congr 1;apply List.filter_congr;intro x _;simp[wZ,lD,bne]
theorem Lp (a:Int)(L:List Bl):(qP L).del (.int .i64 a)=qP (del a L):=by
 show DataW.map _=DataW.map _;rw[qQ]
theorem qR (x:Bl):∀{L:List Bl},pP L->DataW.insert (wZ x) ((del x.1 L).map wZ)=(ins x L).map wZ
 |[],_=>rfl
 |y::l,h=>by
  have h':=ft.1 h;by_cases c1:x.1<y.1
  ·have e:del x.1 (y::l)=y::l:=lC (λz hz=>by
    rcases ae.1 hz with rfl|hz
    ·omega
    ·have:=h'.1 z hz;omega)
   rw[e];simp[ins,c1,DataW.insert,wZ,Lit.before]
  ·by_cases c2:x.1=y.1
   ·have e:del x.1 (y::l)=l:=by
     show List.filter _ (y::l)=l;rw[bZ,ai (by simp[c2])];exact lC (a:=x.1) (λz hz=>by have:=h'.1 z hz;omega)
    rw[e];unfold ins;rw[ai c1,af c2];cases l with
    |nil=>rfl
    |cons z l =>
     have:=h'.1 z (bh ..);simp[DataW.insert,wZ,Lit.before,show x.1<z.1 from by omega]
   ·have e:del x.1 (y::l)=y::del x.1 l:=by
     show List.filter _ (y::l)=y::List.filter _ l;rw[bZ,af (by simp;omega)]
    rw[e];have ih:=qR x h'.2;unfold ins;rw[ai c1,ai c2];simp only[dL,DataW.insert];rw[ai (by simp[wZ,Lit.before];omega),ih]
theorem Lq (x:Bl){L:List Bl}(h:pP L):(qP L).put (.int .i64 x.1) (.lit (.int .i64 x.2))=qP (ins x L):=by
 show DataW.map (DataW.insert (wZ x) _)=DataW.map _;rw[qQ,qR x h]
theorem nM (L:List Bl):Maps.size (qP L)=L.length:=by simp[qP,Maps.size]
theorem w_ (L:List Bl):intKeys (qP L)=L.map (·.1):=by simp only[qP,intKeys,List.map_map];rfl
theorem Ck (L:List Bl)(a:Int):Maps.has (qP L) (.int .i64 a)=L.any (λx=>x.1==a):=by
 simp[qP,Maps.has,List.any_map,Function.comp_def,wZ,lD]
theorem GS {L:List Bl}(h:pP L){x:Bl}(hx:x∈L)(z:DataW Unit):(qP L).atKey (.int .i64 x.1) z=.lit (.int .i64 x.2):=by
 have e:(L.map wZ).find? (λp=>p.1.sameKey (.int .i64 x.1))=some (wZ x):=by
  induction L with
  |nil=>cases hx
  |cons y l ih =>
   rw[ft]at h;rw[dL,List.find?_cons];rcases ae.1 hx with rfl|hx
   ·simp[wZ,lD]
   ·have:=h.1 x hx;have hne:((wZ y).1.sameKey (.int .i64 x.1))=false:=by simp[wZ,lD];omega
    rw[hne];exact ih h.2 hx
 simp only[qP,DataW.atKey,e];rfl
theorem tight {P:Program}{k:TypeId}{R:Value->Option (DataW Unit×List MemPlace)}{b:Nat}{ab8:DataW Unit}(h:w.ownsMap P k R b n ab8):w.ownsMap P k R b (Maps.size ab8) ab8:=by
 obtain⟨es,clock,J,aca,hs,rfl⟩:=h;exact⟨es,clock,J,aca,by simp[Maps.size,length_sorted],rfl⟩
structure Kept (A B:Nat)(w w':World):Prop where
 os:w'.os=w.os
 tape:w'.tape=w.tape
 output:w'.output=w.output
 size:w.heap.size<=w'.heap.size
 block:∀k,k<w.heap.size->k≠A->k≠B->w'.heap[k]?=w.heap[k]?
theorem Kept.refl (A B:Nat)(w:World):Kept A B w w:=⟨rfl,rfl,rfl,ζ _,λ_ _ _ _=>rfl⟩
theorem Kept.trans {a b c:World}(h:Kept A B a b)(k:Kept A B b c):Kept A B a c :=
 ⟨k.os.trans h.os,k.tape.trans h.tape,k.output.trans h.output,σ h.size k.size,λi hi G O=>(k.block i (ι hi h.size) G O).trans (h.block i hi G O)⟩
theorem dY (h:Below w.heap.size w w'):Kept A B w w':=⟨h.os,h.tape,h.output,h.size,λk D _ _=>h.block k D⟩
theorem kp (A B:Nat)(w:World)(o:Obj):Kept A B w (w.alloc o):=dY (χ (γ _ _) o)
theorem fC {b:Nat}(h:w.mapTurned w' b)(J:b=A\/b=B):Kept A B w w':=by
 have g:=h.grown;exact⟨g.os,g.tape,g.output,g.size,λk D G O=>g.block k D (λe=>by
  have:=ah e;rcases J with rfl|rfl
  ·exact G this
  ·exact O this)⟩
theorem Kept.below {N:Nat}(h:Kept A B w w')(hA:N<=A)(hB:N<=B)(hN:N<=w.heap.size):Below N w w' :=
 ⟨h.os,h.tape,h.output,h.size,λk D=>h.block k (by omega) (by omega) (by omega)⟩
theorem Kept.cell (h:Kept A B w w'){p:Addr}(hp:p.block<w.heap.size)(G:p.block≠A)(O:p.block≠B):w'.cell? p=w.cell? p :=
 η (w:=w) (h.block p.block hp G O)
structure Mp (w:World)(b:Nat)(L:List Bl):Prop where
 own:w.ownsMap (H:=Unit) prog 3 (plainElem prog 3) b L.length (qP L)
 QC:pP L
 Oy:∀x∈L,0<=x.1/\x.1<256/\0<=x.2/\x.2<=6
theorem Mp.lt {b:Nat}{L:List Bl}(h:Mp w b L):b<w.heap.size:=h.own.lt
theorem Mp.blk {b:Nat}{L:List Bl}(h:Mp w b L)(J:w'.heap[b]?=w.heap[b]?):Mp w' b L:=by
 obtain⟨⟨es,clock,G,O⟩,h3,h4⟩:=h;exact⟨⟨es,clock,J.trans G,O⟩,h3,h4⟩
theorem Mp.b {b:Nat}{L:List Bl}(h:Mp w b L)(J:Below w.heap.size w w'):Mp w' b L:=h.blk (J.block b h.lt)
theorem Mp.a {b:Nat}{L:List Bl}(h:Mp w b L)(o:Obj):Mp (w.alloc o) b L:=h.b (χ (γ _ _) o)
theorem Mp.k {b:Nat}{L:List Bl}(h:Mp w b L)(D:Kept A B w w')(G:b≠A)(O:b≠B):Mp w' b L:=h.blk (D.block b h.lt G O)
theorem Mp.len {b:Nat}{L:List Bl}(h:Mp w b L):L.length<=256:=by
 have:=je h.QC (a:=0) (b:=256) (λx hx=>⟨(h.Oy x hx).1,(h.Oy x hx).2.1⟩);omega
theorem iO {a:Int}(h0:0<=a)(G:a<256):(Lit.int .i64 a).wf=true:=by
 simp[Lit.wf,IntKind.min,IntKind.max,IntKind.signed,IntKind.bits];omega
theorem Mp.put {b:Nat}{L:List Bl}{x:Bl}(h:Mp w b L)(hx:0<=x.1/\x.1<256/\0<=x.2/\x.2<=6)(ho:w'.ownsMap (H:=Unit) prog 3 (plainElem prog 3) b n ((qP L).put (.int .i64 x.1) (.lit (.int .i64 x.2)))):Mp w' b (ins x L):=by
 rw[Lq x h.QC]at ho;refine⟨by have:=tight ho;rwa [nM]at this,uQ h.QC,λy hy=>?_⟩;rcases fZ hy with rfl|hy
 ·exact hx
 ·exact h.Oy y hy
theorem Mp.del {b:Nat}{L:List Bl}{a:Int}(h:Mp w b L)(ho:w'.ownsMap (H:=Unit) prog 3 (plainElem prog 3) b n ((qP L).del (.int .i64 a))):Mp w' b (del a L):=by
 rw[Lp]at ho;exact⟨by have:=tight ho;rwa [nM]at this,Cg h.QC,λy hy=>h.Oy y (nJ.1 hy).1⟩
theorem GU (w:World):Mp (w.alloc (.map #[] 0)) w.heap.size []:=⟨World.ownsMap_made _ _ _ _,uP,λx hx=>by cases hx⟩
structure jX (w:World)(b fm F:Nat)(N:Int)(aca T:List Bl):Prop where
 c0:w.cell? ⟨b,0,none⟩=some (.int .i64 N)
 c1:w.cell? ⟨b,1,none⟩=some (.map (some fm))
 c2:w.cell? ⟨b,2,none⟩=some (.map (some F))
 f:Mp w fm aca
 t:Mp w F T
 n1:b≠fm
 n2:b≠F
 n3:fm≠F
 lt:b<w.heap.size
theorem jX.b {b:Nat}{aca T:List Bl}(h:jX w b fm F N aca T)(J:Below w.heap.size w w'):jX w' b fm F N aca T :=
 ⟨(J.cell (p:=⟨b,0,none⟩) h.lt).trans h.c0,(J.cell (p:=⟨b,1,none⟩) h.lt).trans h.c1,(J.cell (p:=⟨b,2,none⟩) h.lt).trans h.c2,h.f.b J,h.t.b J,h.n1,h.n2,h.n3,ι h.lt J.size⟩
theorem jX.a {b:Nat}{aca T:List Bl}(h:jX w b fm F N aca T)(o:Obj):jX (w.alloc o) b fm F N aca T:=h.b (χ (γ _ _) o)
theorem jX.QE {b:Nat}{aca F' T:List Bl}(h:jX w b fm F N aca T)(D:Kept fm fm w w')(hm:Mp w' fm F'):jX w' b fm F N F' T :=
 ⟨(D.cell (p:=⟨b,0,none⟩) h.lt h.n1 h.n1).trans h.c0,(D.cell (p:=⟨b,1,none⟩) h.lt h.n1 h.n1).trans h.c1,(D.cell (p:=⟨b,2,none⟩) h.lt h.n1 h.n1).trans h.c2,hm,h.t.k D h.n3.symm h.n3.symm,h.n1,h.n2,h.n3,ι h.lt D.size⟩
theorem jX.aac {b:Nat}{aca T T':List Bl}(h:jX w b fm F N aca T)(D:Kept F F w w')(hm:Mp w' F T'):jX w' b fm F N aca T' :=
 ⟨(D.cell (p:=⟨b,0,none⟩) h.lt h.n2 h.n2).trans h.c0,(D.cell (p:=⟨b,1,none⟩) h.lt h.n2 h.n2).trans h.c1,(D.cell (p:=⟨b,2,none⟩) h.lt h.n2 h.n2).trans h.c2,h.f.k D h.n3 h.n3,hm,h.n1,h.n2,h.n3,ι h.lt D.size⟩
theorem law:Keyed prog 3:=int_keyed underlying3
theorem UM (w:World):(zeroValue 3).run prog w=.ok (.int .i64 0) w:=by kernel_rfl
theorem zN (x:Bl)(m:Nat)(L:List Bl)(w:World)(h:Mp w m L)(hx:0<=x.1/\x.1<256/\0<=x.2/\x.2<=6):
  Calls prog 196 #[.map (some m),fJ x.1 x.2] w λev w'=>ev=.returned (.tuple #[])/\Mp w' m (ins x L)/\Kept m m w w':=by
 have hl:=h.len;have hown:=(h.a (bV x.1 x.2)).own;have HM:=I h;have HX:=I hx;have w1:=iO hx.1 hx.2.1;have w2:=iO hx.2.2.1 (by omega);clear h hx;obtain⟨a,k⟩:=x;simp only at*;go_enter func196,ntmps196;go_wp2_with (at_mapUpdate;refine wpList_mapUpdate_in _ rfl _ _ _ 325 rfl 3 3 law underlying325 _ m L.length _ rfl hown (by unfold maxLen;omega) _ _ _ rfl rfl (keyOf_int_mk underlying3 w1) _ [] (plainElem_int underlying3 w2) ?_;intro w9 UN QI);go_end0;exact⟨rfl,(Z HM).put (x:=(a,k)) (Z HX) UN,(kp _ _ _ _).trans (fC QI (ε rfl))⟩
end Bd
namespace Fr
theorem jM {w w':World}(h:Below w.heap.size w w')(n:Nat):Below w.heap.size w (w'.drewN n):=h.trans ⟨rfl,rfl,rfl,ζ _,λ_ _=>rfl⟩
end Fr
end Go.Proofs.YtcbmfakjfoggaaaGreatDoor
