/- H37 -/
import Derived.Test.YtcbmfakjfoggaaaGreatDoorA0
import Derived.Test.YtcbmfakjfoggaaaGreatDoorH35
import Derived.Test.YtcbmfakjfoggaaaGreatDoorH34
set_option maxHeartbeats 0
set_option maxRecDepth 100000
namespace Go.Proofs.YtcbmfakjfoggaaaGreatDoor
open _root_.Go.Proofs.Tryz Go.RowKit Go.Maps
namespace Pl
open Fr Bd Zn Dz Sb Mg Rd
section
variable {B:Nat}{C:Dc}{M:Mc}{aK N:Nat}{U U':Nat->Prop}{S S':Ds}{R R':Rs}{w w1 w':World}{x y:Int}{o:Bl}
theorem sf (h:RP B C M aK U S R w)(K:R.cl=false)(hx:0<=x/\x<S.ws.length){ab9 Mm:List Bl}(hT:R.T=ab9++o::Mm)(hK:o∉ab9)(BP:R.T.length<1000){tk:Nat}{L:List Nat}(hL:R.L=tk::L)(kI:L.length<8)(hY:R.ab6.length<1000):
  Calls prog 24 #[.pointer (some ⟨aK,0,none⟩),.int .i64 x,.agg #[.int .i64 o.1,.int .i64 o.2]] w λev w'=>ev=.returned (.int .i64 0)/\∃ie lq kj,RP B C M aK U S {R with T:=ab9++Mm,L:=L,ab6:=R.ab6++[(tk,o)],vT:=ie,vY:=lq,vL:=kj} w'/\fX C.N0 aK R {R with T:=ab9++Mm,L:=L,ab6:=R.ab6++[(tk,o)],vT:=ie,vY:=lq,vL:=kj} U U w w':=by
 obtain⟨oN,oA⟩:=o;have F1:=χ (γ w.heap.size w) (cB oN oA);have q':=θ w #[.int .i64 oN,.int .i64 oA] 34;have q0:=q' 0;have q1:=q' 1;simp only[Δ,υ,ω]at q0 q1;have H1:=h.b F1;have Ac:=h.fresh (bB w #[.int .i64 oN,.int .i64 oA] 34) (ζ _);have c7:=H1.m.c7;rw[K]at c7;have c0:=H1.m.c0;have HW:=I (H1.worker x);rw[aM hx]at HW;have hlen:R.T.length=ab9.length+(Mm.length+1):=by rw[hT];simp
 obtain⟨b,c,wS,_⟩:=H1.m.t.form (by omega);have c3:=H1.m.c3;have r3:=H1.m.t;rw[wS]at c3 r3;have cZ:=I (fX.below (N:=C.N0) (aK:=aK) (R:=R) (U:=U) F1);have dD:=I H1;have mJ:=I Ac;have Lc:Hid (∀t,t<ab9.length->∃x y,R.T[t]?=some (x,y)/\(x,y)≠(oN,oA)):=λt ht=>by
  have e:R.T[t]?=some ab9[t]:=by rw[hT,ar ht];exact ξ ht
  exact⟨ab9[t].1,ab9[t].2,e,λe2=>hK (by rw[<- e2];exact aO ht)⟩
 have KS:Hid (R.T[ab9.length]?=some (oN,oA)):=by
  show R.T[ab9.length]?=_;rw[hT];simp
 have iq:=I r3;have HT:=I hT;have gM:=I hlen;have FZ:ab9.length+(Mm.length+1)<1000:=by omega
 clear h F1 q' H1 Ac K wS hx hT hK r3 hlen;generalize hn:R.T.length=n at*;have HN:=I hn;generalize jG:ab9.length=kk at*;generalize f_:Mm.length=mm at*;have Bq:=I jG;have lY:=I f_;clear hn jG f_;go_enter func24,ntmps24;go_upto_region 1 with(fail);generalize w.alloc (cB oN oA)=W at*;go_wp2_with fail;refine(Z HW).mono ?_;rintro ev w1⟨rfl,rfl⟩;have hbl:=(Z mJ).1.lt;have PG:=cZ;generalize w.heap.size=b5 at*;go_wp2_with fail;go_loopw [8] (λs8 wr=>∃t:Nat,s8=.int .i64 t/\t<=kk/\Hid (Below w1.heap.size w1 wr)) (λs _=>kk-(intOf s).toNat)
 case atStart=>exact⟨0,rfl,Γ _,γ _ _⟩
 case round =>
  obtain⟨t,rfl,ht,HB⟩:=hrel;have y0:=((Z HB).cell (p:=⟨b5,0,none⟩) hbl).trans q0;have y1:=((Z HB).cell (p:=⟨b5,1,none⟩) hbl).trans q1;have z3:=((Z HB).cell (p:=⟨aK,3,none⟩) (Z dD).m.tg.lt).trans c3;have zq:(0:Int)<=t:=by omega
  have Qg:IntKind.i64.wrap ((t:Int)+1)=(t:Int)+1:=aB _ (by omega);have EM:(t:Int)<n:=by have:=Z gM;omega
  by_cases Jv:t<kk
  ·obtain⟨x',y',jl,hne⟩:=(Z Lc) t Jv;obtain⟨gr,zl,x0,x1⟩:=jb (aN (Z iq) (Z HB)) (Z HN) jl;obtain rfl:b=gr:=by simpa using zl
   clear jl zl;by_cases hx:x'=oN
   ·subst hx;have hy:¬y'=oA:=λe=>hne (by rw[e]);have hd:decide (y'=oA)=false:=by simpa using hy
    clear hne;go_wp2_with fail;go_quiet (fail);go_wp2_with fail;go_roundw;case rel=>exact⟨t+1,by go_num,by omega,iB (Z HB) _⟩
    case measure=>simp[intOf];omega
   ·have hd:decide (x'=oN)=false:=by simpa using hx
    clear hne;go_wp2_with fail;go_quiet (fail);go_wp2_with fail;go_roundw;case rel=>exact⟨t+1,by go_num,by omega,iB (Z HB) _⟩
    case measure=>simp[intOf];omega
  ·obtain rfl:t=kk:=by omega
   obtain⟨gr,zl,x0,x1⟩:=jb (aN (Z iq) (Z HB)) (Z HN) (Z KS);obtain rfl:b=gr:=by simpa using zl
   clear zl;have Qc:¬(t:Int)=(n:Int):=by have:=Z gM;omega
   have hnd:decide ((t:Int)=(n:Int))=false:=by simpa using Qc
   go_wp2_with fail;go_quiet (fail);have BB:Below w1.heap.size w1 (wr.drewN nq):=iB (Z HB) nq;have H3:=(Z dD).b BB;have fY:=I ((Z PG).trans (fX.below BB));have tu:=I ((Z mJ).b BB);have Kf:=I ((BB.cell (p:=⟨b5,0,none⟩) hbl).trans q0);have Kg:=I ((BB.cell (p:=⟨b5,1,none⟩) hbl).trans q1);have d3:=(BB.cell (p:=⟨aK,3,none⟩) (Z dD).m.tg.lt).trans c3;have xM:=I (aN (Z iq) BB);have eD:=I H3;clear BB H3 y0 y1 z3 x0 x1 c3 HB;generalize wr.drewN nq=W3 at*;have wQ:=I (gC (ab9:=ab9) (M:=Mm) (t:=(oN,oA)) (b:=b) (c:=c) (w:=W3) (by rw[Z Bq,Z lY,<- (Z gM)];have:=Z xM;rw[Z HT]at this;exact this) (by rw[Z Bq,Z lY];omega));rw[Z Bq,Z lY,<- (Z gM)]at wQ;go_wp2_with fail;refine(Z wQ).mono ?_;rintro ev w7⟨v7,rfl,o7,b7⟩;obtain⟨p7,k7,rfl⟩:=aX o7;obtain⟨H8,F8⟩:=(Z eD).Tc b7 o7;obtain⟨e8,BL⟩:=(Z eD).row F8 (Z tu);have z3:=(b7.cell (p:=⟨aK,3,none⟩) (Z eD).m.tg.lt).trans d3;have zf3:=(b7.frozen (p:=⟨aK,3,none⟩) (Z eD).m.tg.lt).trans ((Z eD).m.fz 3);have Qm:=I ((η (a:=⟨b5,0,none⟩) e8).trans (Z Kf));have Qn:=I ((η (a:=⟨b5,1,none⟩) e8).trans (Z Kg));have uI:=I BL;have iY:=I ((Z fY).trans F8);have gW:=I H8;clear wQ o7 H8 F8 e8 BL b7 eD fY tu Kf Kg d3 xM Lc KS iq HT;generalize(ab9++Mm).length=n7 at*;go_upto_region 12 with(fail);generalize w7.setCell ⟨aK,3,none⟩ (.slice p7 n7 k7)=W5 at*;have H6:=Z gW;have Yg:R.L.length=L.length+1:=by rw[hL];simp
   obtain⟨b4,c4,BQ,_⟩:=H6.m.l.form (by simp only;omega);have e4:=H6.m.c4;have r4:=H6.m.l;have f5:=H6.m.fz 5;simp only at BQ e4 r4;rw[BQ,Yg]at e4 r4;rw[hL]at r4;have k0:=r4.cellAt 0 (by omega);simp only[dX,dL,υ]at k0;have e5:=H6.m.c5;have r5:=H6.m.y;simp only at e5 r5;obtain⟨p5,k5,hvY⟩:=aX r5;have HVY:=I hvY;rw[hvY]at e5 r5;have x0:=Z Qm;have x1:=Z Qn;have abX:(0:Int)<((L.length+1:Nat):Int):=by omega
   have abY:decide (((L.length+1:Nat):Int)>0)=true:=aM (by omega);have abZ:(0:Int)<(L.length:Int)+1:=by omega
   obtain⟨j0,Cn,Yh,Yi,Yj⟩:=aY zi;have JI:=I Cn;have JZ:=I Yh;have JZ1:=I Yi;have JZ2:=I Yj;have T5:=H6.m.tg;have mM:=H6.lo.2;have HRL:=I r4;generalize hnY:R.ab6.length=nY at*;have HNY:=I hnY;clear Cn Yh Yi Yj H6 BQ hvY Yg r4 hnY;generalize ZU:L.length=nl at*;go_wp2_with fail;have BA:Below W5.heap.size W5 (W5.alloc (.cells #[.int .i64 (tk:Int),.int .i64 oN,.int .i64 oA] 167)).drew:=(χ (γ _ _) _).drew;have iE:=aN r5 BA;have ir:=T5.b BA;have hNb:B<=(W5.alloc (.cells #[.int .i64 (tk:Int),.int .i64 oN,.int .i64 oA] 167)).drew.heap.size:=σ mM BA.size;have j9:=(BA.cell (p:=⟨aK,5,none⟩) T5.lt).trans e5;have j_:=(BA.frozen (p:=⟨aK,5,none⟩) T5.lt).trans f5;go_region_law (refine bX _ rfl (.tmp 68) (.tmp 77) 62 rfl B 167 j0 (.agg #[.int .i64 0,.int .i64 0,.int .i64 0]) 3 24 underlying62 (Z JI) (Z JZ) (Z JZ1) (Z JZ2) rfl (by decide) (.slice p5 nY k5) nY (fB R.ab6) (by simp[Act.eval]) iE ⟨W5.heap.size,0,none⟩ 1 1 [.int .i64 (tk:Int),.int .i64 oN,.int .i64 oA] (by simp[Act.eval]) rfl (by intro j u E;match j,E with|0,E=>(simp at E;subst E;simp[Addr.add])|1,E=>(simp at E;subst E;simp[Addr.add])|2,E=>(simp at E;subst E;simp[Addr.add])) (by intro u hu;simp at hu;rcases hu with rfl|rfl|rfl<;>rfl) (by omega) (by unfold maxLen;omega) (by omega) hNb _ rfl ?_;intro g4 Fh w6 o6 q6 hg4 kE;have e6:=q6.block aK ir.lt (d_ iE ir (by decide));have ID:w6.cell? ⟨aK,5,none⟩=some (.slice p5 nY k5):=(η (a:=⟨aK,5,none⟩) e6).trans j9;have Di:w6.frozen? ⟨aK,5,none⟩=false:=(π (a:=⟨aK,5,none⟩) e6).trans j_);all_goals
    have yR:(W5.alloc (.cells #[.int .i64 (tk:Int),.int .i64 oN,.int .i64 oA] 167)).drew.grownBy w6 R.vY.ownBlock:=by rw[Z HVY];exact q6
    have qs:R.vY.ownBlock=some g4\/g4=(W5.alloc (.cells #[.int .i64 (tk:Int),.int .i64 oN,.int .i64 oA] 167)).drew.heap.size:=by rw[Z HVY];exact hg4
    obtain⟨H7,F7⟩:=(Z gW).XJ BA (Z HNY) o6 yR qs;have zC:=I H7;have zB:=I ((Z iY).trans F7);have r4:=H7.m.l;have ZW:=H7.m.c4;have f4':=H7.m.fz 4;have Yk:=H7.m.tg.lt;simp only at r4 ZW;have Yg:R.L.length=L.length+1:=by rw[hL];simp
    obtain⟨b9,c9,BQ,_⟩:=H7.m.l.form (by simp only;omega);simp only at BQ;rw[BQ,Yg,ZU]at ZW r4;rw[hL]at r4;have zx:=I r4;clear yR qs H7 F7 o6 q6 hg4 kE e6 j9 j_ iE BA ir hNb gW iY uI Qm Qn x0 x1 e5 f5 r5 T5 JI JZ JZ1 JZ2 HVY e4 k0 BQ Yg r4;go_upto_region 15 with(fail);generalize w6.setCell ⟨aK,5,none⟩ (.slice (some ⟨g4,0,none⟩) (nY+1) Fh)=W7 at*;have UA:=I (mY (ab9:=[]) (M:=L) (t:=tk) (b:=b9) (c:=c9) (w:=W7) (by simp only[aA,bj,aT,ZU];exact Z zx) (by simp only[aA];omega));simp only[aA,bj,aT,ZU,Int.ofNat_zero]at UA;clear zx;go_wp2_with fail;refine(Z UA).mono ?_;rintro ev w8⟨v8,rfl,o8,b8⟩;obtain⟨p8,k8,rfl⟩:=aX o8;have o8':w8.ownsRow W7.heap.size 3 1 (.slice p8 nl k8) L.length (dX L):=by rw[ZU];exact o8
    obtain⟨H9,F9⟩:=(Z zC).XK b8 o8';have y4:=(b8.cell (p:=⟨aK,4,none⟩) Yk).trans ZW;have yf4:=(b8.frozen (p:=⟨aK,4,none⟩) Yk).trans f4';have Uy:=I H9;have XR:=I ((Z zB).trans F9);clear UA o8 o8' b8 H9 F9 zC zB ZW f4';go_wp2;go_ret;exact⟨rfl,_,_,_,Z Uy,Z XR⟩
end
end Pl
end Go.Proofs.YtcbmfakjfoggaaaGreatDoor
