/- H20 -/
import Derived.Test.YtcbmfakjfoggaaaGreatDoorA0
import Derived.Test.YtcbmfakjfoggaaaGreatDoorH15
set_option maxHeartbeats 0
set_option maxRecDepth 100000
namespace Go.Proofs.YtcbmfakjfoggaaaGreatDoor
open _root_.Go.Proofs.Tryz Go.RowKit Go.Maps
namespace Bd
open Fr
theorem MF (N:Int)(w:World)(G:1<=N)(O:N<=256):
  Calls prog 143 #[.int .i64 N] w λev w'=>∃b fm F,ev=.returned (.tuple #[ptr b,.nilIface])/\jX w' b fm F N (cv 0 N) []/\Tag w' b 327/\w.heap.size<=fm/\w.heap.size<=F/\Below w.heap.size w w':=by
 have HC:=I (λw=>GY 0 N w (by omega) (by omega) (by omega));have HI:=I (GQ N (by omega));have hne:=I (QU G);have hlen:(cv 0 N).length<=256:=by have:=oO 0 N;omega
 have HM:=I (λx (hx:x∈cv 0 N)=>show 0<=x.1/\x.1<256/\0<=x.2/\x.2<=6 by
  have a1:=(Z HI).Ov hx;have a2:=(Z HI).oF x hx;have a3:=cy x.2;unfold zI at a2;omega)
 have HS:=I (Z HI).sF;have d1:decide (N<1)=false:=by simp;omega
 obtain⟨L,hL⟩:∃L,L=cv 0 N:=⟨_,rfl⟩;rw[<- hL]at HC hne hlen HM HS ⊢;clear hL HI G O;have f_:=@run_makeMap prog;unfold ptr;go_enter func143,ntmps143;go_wp2_with fail;refine(Z HC _).mono ?_;rintro ev w2⟨v,rfl,hrow,b2,_⟩;obtain⟨g,cap,rfl,hg,gB,lF,hr⟩:=oQ hrow (Z hne);have sD:=hr.lt;have HR:=I hr;have s2:=b2.size;clear hr hrow HC;unfold maxLen at lF;go_wp2_with fail;have M1:=((GU w2).a (.map #[] 0)).a (.cells #[.int .i64 N,.map (some w2.heap.size),.map (some (w2.heap.size+1))] 327);have M2:=(GU (w2.alloc (.map #[] 0))).a (.cells #[.int .i64 N,.map (some w2.heap.size),.map (some (w2.heap.size+1))] 327);rw[show(w2.alloc (.map #[] 0)).heap.size=w2.heap.size+1 by simp]at M2;have e3:((w2.alloc (.map #[] 0)).alloc (.map #[] 0)).heap.size=w2.heap.size+2:=by simp
 have BN:Hid (jX (((w2.alloc (.map #[] 0)).alloc (.map #[] 0)).alloc (.cells #[.int .i64 N,.map (some w2.heap.size),.map (some (w2.heap.size+1))] 327)) (w2.heap.size+2) w2.heap.size (w2.heap.size+1) N [] []):=by
  refine⟨?_,?_,?_,M1,M2,by omega,by omega,by omega,by simp⟩
  ·have q:=θ ((w2.alloc (.map #[] 0)).alloc (.map #[] 0)) #[.int .i64 N,.map (some w2.heap.size),.map (some (w2.heap.size+1))] 327 0;rw[e3]at q;exact q
  ·have q:=θ ((w2.alloc (.map #[] 0)).alloc (.map #[] 0)) #[.int .i64 N,.map (some w2.heap.size),.map (some (w2.heap.size+1))] 327 1;rw[e3]at q;exact q
  ·have q:=θ ((w2.alloc (.map #[] 0)).alloc (.map #[] 0)) #[.int .i64 N,.map (some w2.heap.size),.map (some (w2.heap.size+1))] 327 2;rw[e3]at q;exact q
 have F3:Below w.heap.size w (((w2.alloc (.map #[] 0)).alloc (.map #[] 0)).alloc (.cells #[.int .i64 N,.map (some w2.heap.size),.map (some (w2.heap.size+1))] 327)):=χ (χ (χ b2 _) _) _;have TG:Hid (Tag (((w2.alloc (.map #[] 0)).alloc (.map #[] 0)).alloc (.cells #[.int .i64 N,.map (some w2.heap.size),.map (some (w2.heap.size+1))] 327)) (w2.heap.size+2) 327):=by
  have q:=bB ((w2.alloc (.map #[] 0)).alloc (.map #[] 0)) #[.int .i64 N,.map (some w2.heap.size),.map (some (w2.heap.size+1))] 327;rw[e3]at q;exact q
 have iq:=I ((((Z HR).b (χ (γ _ _) (.map #[] 0))).b (χ (γ _ _) (.map #[] 0))).b (χ (γ _ _) (.cells #[.int .i64 N,.map (some w2.heap.size),.map (some (w2.heap.size+1))] 327)));have s3:(((w2.alloc (.map #[] 0)).alloc (.map #[] 0)).alloc (.cells #[.int .i64 N,.map (some w2.heap.size),.map (some (w2.heap.size+1))] 327)).heap.size=w2.heap.size+3:=by simp
 rw[show w2.heap.size+1+1=w2.heap.size+2 by omega];clear HR M1 M2 e3 d1;generalize((w2.alloc (.map #[] 0)).alloc (.map #[] 0)).alloc (.cells #[.int .i64 N,.map (some w2.heap.size),.map (some (w2.heap.size+1))] 327)=W3 at*;have hfm:w.heap.size<=w2.heap.size:=s2;clear b2 s2;generalize w2.heap.size=fm at*;generalize hn:L.length=n at*;go_loopw [8,27] (λ_ s wr=>∃j:Nat,s=.int .i64 j/\j<=n/\Hid (jX wr (fm+2) fm (fm+1) N (L.take j) [])/\Hid (Kept fm fm W3 wr)) (λ_ s _=>n-(intOf s).toNat)
 case atStart=>exact⟨0,rfl,Γ _,BN,Kept.refl _ _ _⟩
 case round =>
  obtain⟨j,rfl,E,hB,D⟩:=hrel;by_cases pS:j<n
  ·have qm:j<L.length:=by omega
   have cc:=(Z iq).c j qm;have k0:=dA cc.1 (Z BN).f (Z BN).f (Z D);have k1:=dA cc.2 (Z BN).f (Z BN).f (Z D);rw[getD_lt qm]at k0 k1;have hit:=I (GR (Z HS) qm);have hsm:=(Z HM) L[j] (aO qm);generalize L[j]=x at*;obtain⟨x1,x2⟩:=x;simp only at k0 k1 hsm;have B2:=(Z hB).a (bV x1 x2);have F2:=(Z D).trans (kp _ _ _ (bV x1 x2));have X2:=ix wr (x1,x2);clear cc hB D;go_wp2_with fail;generalize wr.alloc (bV x1 x2)=W4 at*;generalize wr.heap.size=c at*;have c1:=B2.c1;have x0:=X2.c0;have x3:=X2.c1;simp only at x0 x3;have HP:=I (zN (x1,x2) fm (L.take j) W4.drew B2.f.d hsm);have KC:=I (λw1 (J:Kept fm fm W4.drew w1)=>(⟨dA B2.c1 B2.f B2.f (kd J),dA X2.c0 B2.f B2.f (kd J),dA X2.c1 B2.f B2.f (kd J)⟩:w1.cell? ⟨fm+2,1,none⟩=some (.map (some fm))/\w1.cell? ⟨c,0,none⟩=some (.int .i64 x1)/\w1.cell? ⟨c,1,none⟩=some (.int .i64 x2)));go_region_held3 (λw'=>w'.cell? ⟨fm+2,1,none⟩=some (.map (some fm))/\w'.cell? ⟨c,0,none⟩=some (.int .i64 x1)/\w'.cell? ⟨c,1,none⟩=some (.int .i64 x2)) ((first|(go_keep;done)|(exact(Z KC) _ (by assumption)))) ((go_at_call 196;refine(Z HP).mono ?_;rintro ev w6⟨rfl,M6,k6⟩));rw[Z hit]at M6;have B6:=I (B2.QE (kd k6) M6);have F6:=I (F2.trans (kd k6));clear B2 F2 X2 c1 x0 x3 HP KC k6 M6 k0 k1;go_wp2;go_roundw;case rel=>exact⟨j+1,by go_num,by omega,B6,F6⟩
   case measure=>simp[intOf];omega
  ·have kq:j=n:=by omega
   subst kq;have B6:=Z hB;rw[<- hn,b_]at B6;have B6:=I B6;go_wp2;go_ret2;exact⟨_,_,_,rfl,Z B6,(Z TG).blk ((Z D).block (fm+2) (by omega) (by omega) (by omega)),hfm,by omega,F3.trans ((Z D).below hfm hfm (by omega))⟩
end Bd
namespace Dz
open Fr Bd Zn
variable {w w':World}{F fm z:Nat}{N hi lw mn:Int}{v3 v4:Value}{aca:List Bl}
structure DB (w:World)(z:Nat)(mn lw hi:Int)(v3 v4:Value):Prop where
 c0:w.cell? ⟨z,0,none⟩=some (.int .i64 mn)
 c1:w.cell? ⟨z,1,none⟩=some (.int .i64 lw)
 c2:w.cell? ⟨z,2,none⟩=some (.int .i64 hi)
 c3:w.cell? ⟨z,3,none⟩=some v3
 c4:w.cell? ⟨z,4,none⟩=some v4
 ff:∀o,w.frozen? ⟨z,o,none⟩=false
 tg:Tag w z 241
theorem DB.b (h:DB w z mn lw hi v3 v4)(J:Below w.heap.size w w'):DB w' z mn lw hi v3 v4 :=
 have hl:=h.tg.lt
 ⟨(J.cell (p:=⟨z,0,none⟩) hl).trans h.c0,(J.cell (p:=⟨z,1,none⟩) hl).trans h.c1,(J.cell (p:=⟨z,2,none⟩) hl).trans h.c2,(J.cell (p:=⟨z,3,none⟩) hl).trans h.c3,(J.cell (p:=⟨z,4,none⟩) hl).trans h.c4,λo=>(J.frozen (p:=⟨z,o,none⟩) hl).trans (h.ff o),h.tg.b J⟩
theorem DB.bn {N:Nat}(h:DB w z mn lw hi v3 v4)(J:Below N w w')(hN:z<N):DB w' z mn lw hi v3 v4 :=
 ⟨(J.cell (p:=⟨z,0,none⟩) hN).trans h.c0,(J.cell (p:=⟨z,1,none⟩) hN).trans h.c1,(J.cell (p:=⟨z,2,none⟩) hN).trans h.c2,(J.cell (p:=⟨z,3,none⟩) hN).trans h.c3,(J.cell (p:=⟨z,4,none⟩) hN).trans h.c4,λo=>(J.frozen (p:=⟨z,o,none⟩) hN).trans (h.ff o),h.tg.blk (J.block z hN)⟩
theorem DB.p3 (h:DB w z mn lw hi v3 v4)(v:Value):DB (w.setCell ⟨z,3,none⟩ v) z mn lw hi v v4 :=
 ⟨(bu (by simp)).trans h.c0,(bu (by simp)).trans h.c1,(bu (by simp)).trans h.c2,fK h.c3,(bu (by simp)).trans h.c4,λo=>by simp only[Ψ];exact h.ff o,h.tg.set _ _⟩
theorem DB.p4 (h:DB w z mn lw hi v3 v4)(v:Value):DB (w.setCell ⟨z,4,none⟩ v) z mn lw hi v3 v :=
 ⟨(bu (by simp)).trans h.c0,(bu (by simp)).trans h.c1,(bu (by simp)).trans h.c2,(bu (by simp)).trans h.c3,fK h.c4,λo=>by simp only[Ψ];exact h.ff o,h.tg.set _ _⟩
theorem Rf (w:World)(mn lw hi:Int):DB (w.alloc (.cells #[.int .i64 mn,.int .i64 lw,.int .i64 hi,.slice none 0 0,.slice none 0 0] 241)) w.heap.size mn lw hi (.slice none 0 0) (.slice none 0 0):=
 ⟨by simp,by simp,by simp,by simp,by simp,λo=>by simp,bB _ _ _⟩
theorem rD {A b:Nat}{T:List Bl}(h:jX w b fm F N aca T)(tb:Tag w b 327)(D:Kept A A w w'){t:TypeId}(ht:Tag w A t)(hne:t≠327):jX w' b fm F N aca T/\Tag w' b 327:=by
 have q1:=tb.ne ht hne.symm;have q2:=jm ht h.f;have q3:=jm ht h.t;exact⟨h.blk D.size (D.block _ h.lt q1 q1) (D.block _ h.f.lt q2 q2) (D.block _ h.t.lt q3 q3),tb.keep D q1⟩
theorem tZ {b e size n:Nat}{v:Value}{xs:List Value}(U:w.ownsRow b e size v n xs)(q:w.grownBy w' v.ownBlock)(he:e≠327){c:Nat}{T:List Bl}(h:jX w c fm F N aca T)(tb:Tag w c 327):jX w' c fm F N aca T/\Tag w' c 327:=by
 rcases tY U q with J|⟨g,ht,_,D⟩
 ·exact⟨h.b J,tb.b J⟩
 ·exact rD h tb D ht he
theorem Rg:(prog.info? 242).map (λi=>(i.zero,i.size,i.bytes))=some (some (.pointer none),1,8):=by kernel_rfl
def Rh (c:Cf)(w:World)(ev:Ending)(w':World):Prop:=∃z nb fm F,ev=.returned (.tuple #[ptr z,.nilIface])/\DZ w' z c.mn c.lw c.hi c.n nb fm F (kR c.P) (λi=>iC (c.ab8 i) c.n 1001)/\(∀i,i<c.n->w.heap.size<=fm i/\w.heap.size<=F i)/\Below w.heap.size w w'
theorem MG (c:Cf)(p q:Option Addr)(pc qc:Nat)(w:World)(e:Nat->Addr)(he:kO w e)(h:At w c p q)(hwd:¬c.wide)(hi:c.is 0):
  Calls prog 64 #[sK c p pc q qc] w λev w'=>Rh c w ev w':=by
 have F1:=χ (γ w.heap.size w) (.cells #[.slice p c.n pc,.slice q c.m qc,.int .i64 c.mn,.int .i64 c.lw,.int .i64 c.hi] 127);have BX:=ji w c p q pc qc 127;have HC:=lM c p q pc qc _ e (he.below F1) (h.b F1) hwd;have HC:=I (HC.mono (λev w' ⟨j,E,hev,J⟩=>show ev=Ending.returned .nilIface/\Below _ _ w' from⟨by rw[hev,Cf.ve E hi];rfl,J⟩));have A1:=h.b F1;obtain⟨hb2,EC,hb3⟩:¬c.j7/\c.wJ/\¬c.lL:=by
  rcases hi with⟨h,_⟩|⟨h,_⟩|⟨_,h⟩
  ·exact absurd h (by decide)
  ·exact absurd h (by decide)
  ·exact h
 have hn:1<=c.n:=bE λhh=>hb2 (ε (by omega));have MH:c.n<=4:=bE λhh=>hb2 (δ (ε (by omega)));have hP:∀i,i<c.n->1<=c.P i/\c.P i<=256:=λi hi=>⟨eu.1 λhh=>hb2 (δ (δ (ε ⟨i,hi,ε hh⟩))),eu.1 λhh=>hb2 (δ (δ (ε ⟨i,hi,δ hh⟩)))⟩;have hm:c.m=c.n:=EC.1;have hM:∀i,i<c.m->c.M i=c.n:=EC.2;have hD:∀i,i<c.n->∀k,k<c.n->0<=c.ab8 i k/\c.ab8 i k<=1000:=λi hi k D=>⟨eu.1 λhh=>hb2 (δ (δ (δ (ε ⟨i,by omega,k,by rw[hM i (by omega)];exact D,ε hh⟩)))),eu.1 λhh=>hb2 (δ (δ (δ (ε ⟨i,by omega,k,by rw[hM i (by omega)];exact D,δ hh⟩))))⟩;clear h he hwd hi hb2 EC hb3;unfold sK at*;obtain⟨n,P,m,M,ab8,mn,lw,hi⟩:=c;simp only at*;obtain rfl:n=m:=hm.symm;have RN:Hid (∀z nb fm F w',DZ w' z mn lw hi n nb fm F (kR P) (λi=>iC (ab8 i) n 1001)->(∀i,i<n->w.heap.size<=fm i/\w.heap.size<=F i)->Below w.heap.size w w'->Rh ⟨n,P,n,M,ab8,mn,lw,hi⟩ w (.returned (.tuple #[.pointer (some ⟨z,0,none⟩),.nilIface])) w'):=λz nb fm F w' G O h3=>⟨z,nb,fm,F,rfl,G,O,h3⟩;generalize Rh ⟨n,P,n,M,ab8,mn,lw,hi⟩ w=NR at*;have YP:=I (λw1 x p' cc (h:j4 w1 p' n (ab8 x)) (hx:x<n)=>Ar (ab8 x) n cc p' w1 hn MH h (hD x hx));obtain⟨i0,eO,hz0,hz1,hz2⟩:=aY Rg;have HI:=I eO;have HZ:=I hz0;have eI:=I hz1;have eJ:=I hz2;obtain⟨i1,Am,Ao,wK,uV⟩:=aY Ak;have HJ:=I Am;have HY:=I Ao;have Cq:=I wK;have KL:=I uV;clear eO hz0 hz1 hz2 Am Ao wK uV;have b0:=BX.c0;have b1:=BX.c1;have b2:=BX.c2;have b3:=BX.c3;have b4:=BX.c4;have jk:=BX.lt;simp only at b0 b1 b2 b3 b4;clear BX;have hq:∀x:Nat,ptr x=.pointer (some ⟨x,0,none⟩):=λ_=>rfl;go_enter func64,ntmps64;go_upto_region 1 with(fail);generalize w.alloc (.cells #[.slice p n pc,.slice q n qc,.int .i64 mn,.int .i64 lw,.int .i64 hi] 127)=W at*;go_wp2_with fail;refine(Z HC).mono ?_;rintro ev w2⟨rfl,b5⟩;have F2:=I (bW F1 b5);have A2:=A1.b b5;have x0:=(b5.cell (p:=⟨w.heap.size,0,none⟩) jk).trans b0;have x1:=(b5.cell (p:=⟨w.heap.size,1,none⟩) jk).trans b1;have x2:=(b5.cell (p:=⟨w.heap.size,2,none⟩) jk).trans b2;have x3:=(b5.cell (p:=⟨w.heap.size,3,none⟩) jk).trans b3;have x4:=(b5.cell (p:=⟨w.heap.size,4,none⟩) jk).trans b4;have Ri:=ι jk b5.size;clear A1 b0 b1 b2 b3 b4 b5 HC F1 jk;have Z0:=I (Rf w2 mn lw hi);have F3:=χ (γ w2.heap.size w2) (.cells #[.int .i64 mn,.int .i64 lw,.int .i64 hi,.slice none 0 0,.slice none 0 0] 241);have s3:(w2.alloc (.cells #[.int .i64 mn,.int .i64 lw,.int .i64 hi,.slice none 0 0,.slice none 0 0] 241)).heap.size=w2.heap.size+1:=by simp
 go_upto_region 5 with(fail);generalize w2.alloc (.cells #[.int .i64 mn,.int .i64 lw,.int .i64 hi,.slice none 0 0,.slice none 0 0] 241)=W0 at*;have y0:=(F3.cell (p:=⟨w.heap.size,0,none⟩) Ri).trans x0;go_wp2_with fail;have KB:=I (λwr (D:Kept w2.heap.size w2.heap.size W0 wr)=>F3.trans (D.below (N:=w2.heap.size) (ζ _) (ζ _) F3.size));have A2:=I A2;have YQ:=s3;generalize hz:w2.heap.size=z at*;go_loopw [22] (λa wr=>∃(i:Nat) (pn pf:Option Addr) (cn cf:Nat) (rows:List Value) (nb fm F:Nat->Nat),a=.int .i64 i/\i<=n/\Hid (DB wr z mn lw hi (.slice pn i cn) (.slice pf i cf))/\Hid (wr.ownsRow W0.heap.size 242 1 (.slice pn i cn) i (kW i nb))/\Hid (wr.ownsRow W0.heap.size 38 1 (.slice pf i cf) i rows)/\Hid (∀j,j<i->∃h d,rows[j]?=some (.slice (some ⟨h,0,none⟩) n d)/\wr.ownsRow 0 3 1 (.slice (some ⟨h,0,none⟩) n d) n (dX (iC (ab8 j) n 1001)))/\Hid (∀j,j<i->(jX wr (nb j) (fm j) (F j) (kR P j).N (kR P j).aca (kR P j).T/\Tag wr (nb j) 327)/\(z<=fm j/\z<=F j)/\∀j',j'<j->fm j'<fm j/\F j'<F j/\fm j'<F j/\F j'<fm j)/\Hid (Kept z z W0 wr)) (λa _=>n-(intOf a).toNat)
 case atStart=>exact⟨0,none,none,0,0,[],λ_=>0,λ_=>0,λ_=>0,rfl,Γ _,Z0,Ξ _ _ _ _,Ξ _ _ _ _,λj E=>by omega,λj E=>by omega,Kept.refl _ _ _⟩
 case round =>
  clear y0;obtain⟨i,pn,pf,cn,cf,rows,nb,fm,F,rfl,hi',qu,hU,hV,hR,hB,hK⟩:=hrel;have oG:(0:Int)<=i:=by omega
  have HB:=I ((Z KB) _ (Z hK));have y0:=((Z HB).cell (p:=⟨w.heap.size,0,none⟩) Ri).trans x0;by_cases eY:i<n
  ·have hlt:(i:Int)<n:=by omega
   obtain⟨blk,off,rfl,hbl,K⟩:=(Z A2).ps i eY;rw[hz]at hbl;simp only at K;have hc2:=((Z HB).cell (p:=⟨blk,off+i,none⟩) hbl).trans K;have Pd:=hP i eY;have Rj:=I (MF (P i) wr Pd.1 Pd.2);have hsz:=(Z hK).size;have HNV:Hid (kR P i=⟨P i,cv 0 (P i),[]⟩):=rfl;clear Pd K;generalize Pe:P i=pv at*;clear y0;go_wp2_with fail;refine(Z Rj).mono ?_;rintro ev w4⟨b,f',t',rfl,B2,tb2,hf2,OW,q2⟩;rw[hq b];have C4:Below wr.heap.size wr w4:=q2;have U4:=aN (Z hU) C4;have z43:=((Z qu).b C4).c3;have z4a:=(((Z qu).b C4).b (χ (γ _ _) (.cells #[.pointer (some ⟨b,0,none⟩)] 242))).c3;have MI:z<W0.heap.size:=by omega
   have VH:=C4.size;clear Rj;go_wp2_with (at_builtin;refine Ω _ rfl (.tmp 39) (.tmp 41) 239 rfl W0.heap.size 242 i0 (.pointer none) 1 8 underlying239 (Z HI) (Z HZ) (Z eI) (Z eJ) rfl (by decide) _ _ _ rfl (U4.alloc _) ⟨w4.heap.size,0,none⟩ 1 1 [.pointer (some ⟨b,0,none⟩)] rfl rfl (by intro j u E;match j,E with|0,E=>simp at E;subst E;simp[Addr.add]) (by intro u hu;simp at hu;subst hu;rfl) (by unfold maxLen;omega) (by omega) (by simp;omega) ?_;intro v5 w5 o5 q5 n5;obtain⟨g5,c5,hv5⟩:=jz o5 (by omega);subst hv5;have B5:Below W0.heap.size wr w5:=((C4.mono hsz).alloc (σ hsz VH) _).grown q5 (by simp;omega) (bL U4);have Z5:=(Z qu).bn B5 MI;have zc5:=Z5.c3;have Rk:=Z5.ff 3);have hz5:=Z5.tg;have ks:=bA (g:=z) w5 3 (.slice (some ⟨g5,0,none⟩) (i+1) c5);have sL:∀(e sz:Nat) (v:Value) (m:Nat) (bs:Nat) (xs':List Value),e≠242->e≠241->wr.ownsRow bs e sz v m xs'->(w5.setCell ⟨z,3,none⟩ (.slice (some ⟨g5,0,none⟩) (i+1) c5)).ownsRow bs e sz v m xs':=λe sz v m bs xs' G O h =>
    fM (((aN h C4).alloc _).kept q5 (jr (aN h C4) U4 G)) ks hz5 O.symm
   have EN:∀(c' f t:Nat) (d:Nd),jX w4 c' f t d.N d.aca d.T->Tag w4 c' 327->jX (w5.setCell ⟨z,3,none⟩ (.slice (some ⟨g5,0,none⟩) (i+1) c5)) c' f t d.N d.aca d.T/\Tag (w5.setCell ⟨z,3,none⟩ (.slice (some ⟨g5,0,none⟩) (i+1) c5)) c' 327:=λc' f t d h ht=>by
    have G:=tZ (U4.alloc _) q5 (by decide) (h.a _) (ht.b (χ (γ _ _) _));exact rD G.1 G.2 ks hz5 (by decide)
   have ZV:=I (Z5.p3 (.slice (some ⟨g5,0,none⟩) (i+1) c5));have UV:Hid ((w5.setCell ⟨z,3,none⟩ (.slice (some ⟨g5,0,none⟩) (i+1) c5)).ownsRow W0.heap.size 242 1 (.slice (some ⟨g5,0,none⟩) (i+1) c5) (i+1) (kW (i+1) (up nb i b))):=by
    show World.ownsRow _ _ _ _ _ _ _;rw[tX];exact fp o5 MI _ _
   have VV:=I (sL 38 1 _ _ _ _ (by decide) (by decide) (Z hV));have RV:Hid (∀j,j<i->∃h d,rows[j]?=some (.slice (some ⟨h,0,none⟩) n d)/\(w5.setCell ⟨z,3,none⟩ (.slice (some ⟨g5,0,none⟩) (i+1) c5)).ownsRow 0 3 1 (.slice (some ⟨h,0,none⟩) n d) n (dX (iC (ab8 j) n 1001))):=λj E=>by
    obtain⟨h,d,e1,e2⟩:=(Z hR) j E;exact⟨h,d,e1,sL 3 1 _ _ _ _ (by decide) (by decide) e2⟩
   have BV:Hid (∀j,j<i+1->(jX (w5.setCell ⟨z,3,none⟩ (.slice (some ⟨g5,0,none⟩) (i+1) c5)) (up nb i b j) (up fm i f' j) (up F i t' j) (kR P j).N (kR P j).aca (kR P j).T/\Tag (w5.setCell ⟨z,3,none⟩ (.slice (some ⟨g5,0,none⟩) (i+1) c5)) (up nb i b j) 327)/\(z<=up fm i f' j/\z<=up F i t' j)/\∀j',j'<j->up fm i f' j'<up fm i f' j/\up F i t' j'<up F i t' j/\up fm i f' j'<up F i t' j/\up F i t' j'<up fm i f' j):=λj E=>by
    rcases bC j i with h'|h'
    ·obtain⟨⟨e1,e2⟩,e4,e3⟩:=(Z hB) j h';refine⟨?_,?_,λj' hj'=>?_⟩
     ·rw[fj _ _ (by omega),fj _ _ (by omega),fj _ _ (by omega)];exact EN _ _ _ (kR P j) (e1.b C4) (e2.b C4)
     ·rw[fj _ _ (by omega),fj _ _ (by omega)];exact e4
     ·rw[fj _ _ (by omega),fj _ _ (by omega),fj _ _ (by omega),fj _ _ (by omega)];exact e3 j' hj'
    ·obtain rfl:j=i:=by omega
     refine⟨?_,by rw[gJ,gJ];omega,λj' hj'=>?_⟩
     ·rw[gJ,gJ,gJ];exact EN _ _ _ (kR P j) (by rw[Z HNV];exact B2) tb2
     ·rw[gJ,gJ,fj _ _ (by omega),fj _ _ (by omega)];have G:=((Z hB) j' hj').1.1;have O:=G.f.lt;have h3:=G.t.lt;omega
   have KV:=I ((lQ (Z hK) B5 (ζ _)).trans ks);have zv:rows.length=i:=by have:=(Z hV).1;omega
   clear sL EN o5 q5 n5 B5 Z5 zc5 Rk U4 z43 z4a C4 q2 ks hz5 qu hU hV hR hB hK HB B2 tb2 hc2 hf2 OW HNV Pe;have AH:=I ((Z KB) _ (Z KV));have e1:=((Z AH).cell (p:=⟨w.heap.size,1,none⟩) Ri).trans x1;obtain⟨Ho,nS,pr,cc,hqq,rk,VI,EA,_⟩:=(Z A2).rs i eY;subst hqq;rw[hz]at rk;simp only[hM i eY]at VI EA;have e2:=((Z AH).cell (p:=⟨Ho,nS+i,none⟩) rk).trans VI;have VJ:=I (EA.b (by rw[hz];exact Z AH));have zV4:=(Z ZV).c4;have zfV:=(Z ZV).ff 4;have IC:=(Z KV).size;have KJ:True:=trivial;clear VI EA;generalize w5.setCell ⟨z,3,none⟩ (.slice (some ⟨g5,0,none⟩) (i+1) c5)=ab7 at*;go_wp2_with fail;first
   |(go_region_law (first
    |(have _t:=KJ;go_simp;go_at_call 144;refine((Z YP) ab7.drew i pr cc ((Z VJ).b (dw ab7)) eY).mono ?_;rintro ev w7⟨g7,c7,rfl,o7,q7⟩;have C7:Below ab7.heap.size ab7 w7:=bd q7;have V7:=aN (Z VV) C7;have Z7:=(Z ZV).b C7;have z74:=Z7.c4;have z7a:=(Z7.b (χ (γ _ _) (.cells #[.slice (some ⟨g7,0,none⟩) n c7] 38))).c4;clear KJ)
    |(refine bX _ rfl (.tmp 49) (.tmp 56) 118 rfl W0.heap.size 38 i1 (.slice none 0 0) 1 24 underlying118 (Z HJ) (Z HY) (Z Cq) (Z KL) rfl (by decide) (.slice pf i cf) i rows (by simp[Act.eval]) (V7.alloc _) ⟨w7.heap.size,0,none⟩ 1 1 [.slice (some ⟨g7,0,none⟩) n c7] (by simp[Act.eval]) rfl (by intro j u E;match j,E with|0,E=>simp at E;subst E;simp[Addr.add]) (by intro u hu;simp at hu;subst hu;rfl) (by omega) (by unfold maxLen;omega) (by omega) (by have:=C7.size;simp;omega) _ rfl ?_;intro g6 c6 w6 o6 q6 _ _;have B6:Below W0.heap.size ab7 w6:=((C7.mono IC).alloc (σ IC C7.size) _).grown q6 (by have:=C7.size;simp;omega) (bL V7);have Z6:=(Z ZV).bn B6 MI;have ID:=Z6.c4;have Rl:=Z6.ff 4)))
   |skip
   all_goals
    have zw:=Z6.tg;have ks:=bA (g:=z) w6 4 (.slice (some ⟨g6,0,none⟩) (i+1) c6);have sL:∀(e sz:Nat) (v:Value) (m:Nat) (bs:Nat) (xs':List Value),e≠38->e≠241->w7.ownsRow bs e sz v m xs'->(w6.setCell ⟨z,4,none⟩ (.slice (some ⟨g6,0,none⟩) (i+1) c6)).ownsRow bs e sz v m xs':=λe sz v m bs xs' G O h =>
     fM ((h.alloc _).kept q6 (jr h V7 G)) ks zw O.symm
    have EN:∀(c' f t:Nat) (d:Nd),jX ab7 c' f t d.N d.aca d.T->Tag ab7 c' 327->jX (w6.setCell ⟨z,4,none⟩ (.slice (some ⟨g6,0,none⟩) (i+1) c6)) c' f t d.N d.aca d.T/\Tag (w6.setCell ⟨z,4,none⟩ (.slice (some ⟨g6,0,none⟩) (i+1) c6)) c' 327:=λc' f t d h ht=>by
     have G:=tZ (V7.alloc _) q6 (by decide) ((h.b C7).a _) ((ht.b C7).b (χ (γ _ _) _));exact rD G.1 G.2 ks zw (by decide)
    have ZF:=I (Z6.p4 (.slice (some ⟨g6,0,none⟩) (i+1) c6));have UF:=I (sL 242 1 _ _ _ _ (by decide) (by decide) (aN (Z UV) C7));have VF:=I (fp o6 MI 4 (.slice (some ⟨g6,0,none⟩) (i+1) c6));have RF:Hid (∀j,j<i+1->∃h d,(rows++[.slice (some ⟨g7,0,none⟩) n c7])[j]?=some (.slice (some ⟨h,0,none⟩) n d)/\(w6.setCell ⟨z,4,none⟩ (.slice (some ⟨g6,0,none⟩) (i+1) c6)).ownsRow 0 3 1 (.slice (some ⟨h,0,none⟩) n d) n (dX (iC (ab8 j) n 1001))):=λj E=>by
     rcases bC j i with h'|h'
     ·obtain⟨h,d,e1,e2⟩:=(Z RV) j h';exact⟨h,d,by rw[ar (by omega)];exact e1,sL 3 1 _ _ _ _ (by decide) (by decide) (aN e2 C7)⟩
     ·obtain rfl:j=i:=by omega
      exact⟨g7,c7,by rw[aq (by omega)];simp[zv],sL 3 1 _ _ _ _ (by decide) (by decide) (ia o7 (Γ _))⟩
    have BF:Hid (∀j,j<i+1->(jX (w6.setCell ⟨z,4,none⟩ (.slice (some ⟨g6,0,none⟩) (i+1) c6)) (up nb i b j) (up fm i f' j) (up F i t' j) (kR P j).N (kR P j).aca (kR P j).T/\Tag (w6.setCell ⟨z,4,none⟩ (.slice (some ⟨g6,0,none⟩) (i+1) c6)) (up nb i b j) 327)/\(z<=up fm i f' j/\z<=up F i t' j)/\∀j',j'<j->up fm i f' j'<up fm i f' j/\up F i t' j'<up F i t' j/\up fm i f' j'<up F i t' j/\up F i t' j'<up fm i f' j):=λj E=>by
     obtain⟨⟨e1,e2⟩,e3⟩:=(Z BV) j E;exact⟨EN _ _ _ (kR P j) e1 e2,e3⟩
    have KF:=I ((lQ (Z KV) B6 (ζ _)).trans ks);clear sL EN o6 q6 B6 Z6 ID Rl V7 Z7 z74 z7a C7 o7 q7 ks zw UV VV RV BV KV ZV e1 e2 zV4 zfV AH VJ;go_wp2;go_roundw;case rel=>exact⟨i+1,some ⟨g5,0,none⟩,some ⟨g6,0,none⟩,c5,c6,rows++[.slice (some ⟨g7,0,none⟩) n c7],up nb i b,up fm i f',up F i t',by go_num,by omega,ZF,UF,VF,RF,BF,KF⟩
    case measure=>simp[intOf];omega
  ·have hlt:¬(i:Int)<n:=by omega
   obtain rfl:n=i:=by omega
   obtain⟨gn,cn',Pf⟩:=jz (Z hU) (by omega);obtain⟨gf,cf',Rm⟩:=jz (Z hV) (by omega);simp only[ψ,aZ]at Pf Rm;obtain⟨rfl,rfl⟩:=Pf;obtain⟨rfl,rfl⟩:=Rm;have DZF:Hid (∃nb fm F,DZ wr z mn lw hi n nb fm F (kR P) (λi=>iC (ab8 i) n 1001)/\∀i,i<n->w.heap.size<=fm i/\w.heap.size<=F i):=by
    have hwz:w.heap.size<=z:=by have:=(Z F2).size;omega
    refine⟨nb,fm,F,⟨(Z qu).c0,(Z qu).c1,(Z qu).c2,⟨gn,cn,(Z qu).c3,ia (Z hU) (Γ _)⟩,⟨gf,cf,rows,(Z qu).c4,ia (Z hV) (Γ _),Z hR⟩,(Z qu).tg.lt,λj E=>((Z hB) j E).1.1,λj E=>vA (hP j E).1 (hP j E).2,λj j' E hj' hjj=>?_,λj E=>rq (hD j E),(Z qu).tg,λj E=>((Z hB) j E).1.2⟩,λj E=>by have:=((Z hB) j E).2.1;omega⟩;rcases Nat.lt_or_gt_of_ne hjj with h'|h'
    ·have:=((Z hB) j' hj').2.2 j h';omega
    ·have:=((Z hB) j E).2.2 j' h';omega
   have FF:=I ((Z F2).trans ((show Below w2.heap.size w2 wr by rw[hz];exact Z HB).mono (Z F2).size));clear qu hU hV hR hB hK HB;go_wp2;obtain⟨nb,fm,F,hD,oH⟩:=Z DZF;exact(Z RN) z nb fm F _ hD oH (Z FF)
end Dz
end Go.Proofs.YtcbmfakjfoggaaaGreatDoor
