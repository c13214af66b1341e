/- H11 -/
import Derived.Test.YtcbmfakjfoggaaaGreatDoorA0
import Derived.Test.YtcbmfakjfoggaaaGreatDoorH09
import Derived.Test.YtcbmfakjfoggaaaGreatDoorH10
set_option maxHeartbeats 0
set_option maxRecDepth 100000
namespace Go.Proofs.YtcbmfakjfoggaaaGreatDoor
open Go.Maps _root_.Go.Proofs.Tryz Go.RowKit
namespace Fr
theorem bd_i64 {n:Int}(h:(Lit.int .i64 n).wf=true): -9223372036854775808<=n/\n<=9223372036854775807:=by
 simp[Lit.wf,IntKind.min,IntKind.max,IntKind.signed,IntKind.bits]at h;omega
end Fr
attribute [local go_sem ↓] Go.wp_at_zero Go.wp_at_succ
namespace Bd
open Fr
theorem rh:∀(a b:List Bl),fS (a++b)=fS a+fS b
 |[],b=>by simp[fS]
 |x::a,b=>by have:=rh a b;simp[fS];omega
theorem Hl {L:List Bl}{j:Nat}(h:j<L.length):fS (L.take (j+1))=fS (L.take j)+pw L[j].2:=by
 rw[aL h,rh];simp[fS]
theorem Hm (b:Nat)(N:Int)(aca T:List Bl)(w:World)(h:RB w b N aca T)(hl:aca.length<=256)(hF:∀x∈aca,0<=x.2/\x.2<=6):
  Calls prog 238 #[ptr b] w λev w'=>ev=.returned (.int .i64 (fS aca))/\Below w.heap.size w w':=by
 have hbl:=h.lt;obtain⟨v1,OL,l1⟩:=h.c1;obtain⟨p,c,rfl,hp⟩:=zU l1;have HG:=I hF;clear l1 h hF;unfold ptr;generalize hn:aca.length=n at*;go_enter func238,ntmps238;go_wp2_with fail;go_loopw [3,4] (λs t wr=>∃j:Nat,s=.int .i64 (fS (aca.take j))/\t=.int .i64 j/\j<=n/\Hid (Below w.heap.size w wr)) (λ_ t _=>n-(intOf t).toNat)
 case atStart=>exact⟨0,rfl,rfl,Γ _,γ _ _⟩
 case round =>
  obtain⟨j,rfl,rfl,E,J⟩:=hrel;have e1:=((Z J).cell (p:=⟨b,1,none⟩) hbl).trans OL;have UY:(0:Int)<=j:=by omega
  have Gn:=qX (l:=aca.take j) (λx hx=>(Z HG) x (gw hx));rw[cI]at Gn;by_cases pS:j<n
  ·have kq:(j:Int)<n:=by omega
   have sH:j<aca.length:=by omega
   obtain⟨g,rfl,gB,lF,wI⟩:=hp (by omega);have QO:(j:Int)<c:=by omega
   have c1:=((wI.b (Z J)).c j sH).2;rw[getD_lt sH]at c1;have hx:=(Z HG) aca[j] (aO sH);have z_:=I (Hl sH);have TF:=lB aca[j].2 hx.1 hx.2;have Cl:=cy aca[j].2;have abr:min j aca.length<=256:=by omega
   have LP:0<=fS (aca.take j)/\fS (aca.take j)<=64*256:=⟨Gn.1,by omega⟩;generalize aca[j].2=y at*;have HP:=I (λw=>iN y w hx.1 hx.2);generalize pw y=q at*;generalize hps:fS (aca.take j)=s at*;clear wI hp Gn;go_wp2_with (go_at_call 249;refine((Z HP) _).mono ?_;rintro ev w3⟨rfl,rfl⟩);go_roundw;case rel=>exact⟨j+1,by rw[Z z_],by go_num,by omega,Z J⟩
   case measure=>simp[intOf];omega
  ·have kq:¬(j:Int)<n:=by omega
   have TC:aca.take j=aca:=bG (by omega);rw[TC];clear Gn TC;generalize hps:fS aca=s at*;have HPS:=I hps;clear hps;go_wp2;go_ret;exact⟨by rw[Z HPS];rfl,Z J⟩
theorem u_ (N:Int)(w:World)(G:1<=N)(O:N<=256):
  Calls prog 146 #[.int .i64 N] w λev w'=>∃b,ev=.returned (ptr b)/\RB w' b N (cv 0 N) []/\w.heap.size<=b/\Below w.heap.size w w':=by
 have HC:=I (λw=>Ei 0 N w (by omega) (by omega) (by omega));generalize cv 0 N=aca at*;unfold ptr;go_enter func146,ntmps146;go_wp2_with fail;refine(Z HC _).mono ?_;rintro ev w2⟨v,rfl,hrow,b2,hnil⟩;have hl:∀b,b<w.heap.size\/w2.heap.size<=b->RL w2 b v aca:=by
  intro b J;by_cases hF:aca=[]
  ·exact ε ⟨hF,hnil hF⟩
  ·obtain⟨g,cap,hv,hg,gB,lF,hr⟩:=Cp hrow hF;have:=hr.lt;exact δ ⟨g,cap,hv,by omega,gB,lF,hF,hr⟩
 obtain⟨p,m,c,rfl,_⟩:=lG (hl w2.heap.size (δ (ζ _)));have hs:=b2.size;clear HC;go_wp2_with fail;go_ret;have q0:=θ w2 #[.int .i64 N,.slice p m c,.slice none 0 0] 333 0;have q1:=θ w2 #[.int .i64 N,.slice p m c,.slice none 0 0] 333 1;have q2:=θ w2 #[.int .i64 N,.slice p m c,.slice none 0 0] 333 2;exact⟨w2.heap.size,rfl,⟨q0,⟨_,q1,(hl _ (δ (ζ _))).b (χ (γ _ _) _)⟩,⟨_,q2,ε ⟨rfl,rfl⟩⟩,by simp,by simp,by simp,bB _ _ _⟩,hs,χ b2 _⟩
end Bd
end Go.Proofs.YtcbmfakjfoggaaaGreatDoor
namespace Go.Proofs.YtcbmfakjfoggaaaGreatDoor
open Go.Maps _root_.Go.Proofs.Tryz Go.RowKit
namespace Zn
open Fr Bd
variable {w w':World}{p:Option Addr}
def j4 (w:World)(p:Option Addr)(n:Nat)(z:Nat->Int):Prop:=∀i,i<n->∃blk off,p=some ⟨blk,off,none⟩/\blk<w.heap.size/\w.cell? ⟨blk,off+i,none⟩=some (.int .i64 (z i))
theorem j4.b {n:Nat}{z:Nat->Int}(h:j4 w p n z)(J:Below w.heap.size w w'):j4 w' p n z:=λi hi=>by
 obtain⟨blk,off,hp,hl,K⟩:=h i hi;exact⟨blk,off,hp,ι hl J.size,(J.cell (p:=⟨blk,off+i,none⟩) hl).trans K⟩
def ri (w:World)(q:Option Addr)(m:Nat)(M:Nat->Nat)(ab8:Nat->Nat->Int):Prop:=∀i,i<m->∃blk off pr c,q=some ⟨blk,off,none⟩/\blk<w.heap.size/\w.cell? ⟨blk,off+i,none⟩=some (.slice pr (M i) c)/\j4 w pr (M i) (ab8 i)/\(pr=none->c=0)
theorem ri.b {q:Option Addr}{m:Nat}{M:Nat->Nat}{ab8:Nat->Nat->Int}(h:ri w q m M ab8)(J:Below w.heap.size w w'):ri w' q m M ab8:=λi hi=>by
 obtain⟨blk,off,pr,c,hp,hl,K,hn,h0⟩:=h i hi;exact⟨blk,off,pr,c,hp,ι hl J.size,(J.cell (p:=⟨blk,off+i,none⟩) hl).trans K,hn.b J,h0⟩
structure Cf where
 n:Nat
 P:Nat->Int
 m:Nat
 M:Nat->Nat
 ab8:Nat->Nat->Int
 mn:Int
 lw:Int
 hi:Int
def Cf.wide (c:Cf):Prop:=20<c.n\/20<c.m\/∃i,i<c.m/\20<c.M i
def Cf.j7 (c:Cf):Prop:=c.n<1\/4<c.n\/(∃i,i<c.n/\(c.P i<1\/256<c.P i))\/(∃i,i<c.m/\∃k,k<c.M i/\(c.ab8 i k<0\/1000<c.ab8 i k))\/c.mn<0\/c.lw<c.mn\/c.hi<c.lw
def Cf.wJ (c:Cf):Prop:=c.m=c.n/\∀i,i<c.m->c.M i=c.n
def Cf.lL (c:Cf):Prop:=∃i,i<c.n/\∃k,k<c.n/\i≠k/\c.ab8 i k<=c.ab8 i i
def Cf.is (c:Cf)(e:Int):Prop:=(e=2/\c.j7)\/(e=3/\¬c.j7/\(¬c.wJ\/c.lL))\/(e=0/\¬c.j7/\c.wJ/\¬c.lL)
theorem Cf.ve {c:Cf}{e f:Int}(h:c.is e)(k:c.is f):e=f:=by
 unfold Cf.is at h k;rcases h with⟨G,O⟩|⟨G,O,h3⟩|⟨G,O,h3,h4⟩<;>rcases k with⟨k1,k2⟩|⟨k1,k2,k3⟩|⟨k1,k2,k3,k4⟩
 ·omega
 ·exact absurd O k2
 ·exact absurd O k2
 ·exact absurd k2 O
 ·omega
 ·rcases h3 with h3|h3
  ·exact absurd k3 h3
  ·exact absurd h3 k4
 ·exact absurd k2 O
 ·rcases k3 with k3|k3
  ·exact absurd h3 k3
  ·exact absurd k3 h4
 ·omega
structure At (w:World)(c:Cf)(p q:Option Addr):Prop where
 ps:j4 w p c.n c.P
 rs:ri w q c.m c.M c.ab8
theorem At.b {c:Cf}{q:Option Addr}(h:At w c p q)(J:Below w.heap.size w w'):At w' c p q:=⟨h.ps.b J,h.rs.b J⟩
def sK (c:Cf)(p:Option Addr)(pc:Nat)(q:Option Addr)(qc:Nat):Value:=.agg #[.slice p c.n pc,.slice q c.m qc,.int .i64 c.mn,.int .i64 c.lw,.int .i64 c.hi]
structure Vd (w:World)(b:Nat)(c:Cf)(p:Option Addr)(pc:Nat)(q:Option Addr)(qc:Nat):Prop where
 c0:w.cell? ⟨b,0,none⟩=some (.slice p c.n pc)
 c1:w.cell? ⟨b,1,none⟩=some (.slice q c.m qc)
 c2:w.cell? ⟨b,2,none⟩=some (.int .i64 c.mn)
 c3:w.cell? ⟨b,3,none⟩=some (.int .i64 c.lw)
 c4:w.cell? ⟨b,4,none⟩=some (.int .i64 c.hi)
 lt:b<w.heap.size
theorem Vd.b {b:Nat}{c:Cf}{q:Option Addr}{pc qc:Nat}(h:Vd w b c p pc q qc)(J:Below w.heap.size w w'):Vd w' b c p pc q qc :=
 ⟨(J.cell (p:=⟨b,0,none⟩) h.lt).trans h.c0,(J.cell (p:=⟨b,1,none⟩) h.lt).trans h.c1,(J.cell (p:=⟨b,2,none⟩) h.lt).trans h.c2,(J.cell (p:=⟨b,3,none⟩) h.lt).trans h.c3,(J.cell (p:=⟨b,4,none⟩) h.lt).trans h.c4,ι h.lt J.size⟩
theorem ji (w:World)(c:Cf)(p q:Option Addr)(pc qc t:Nat):Vd (w.alloc (.cells #[.slice p c.n pc,.slice q c.m qc,.int .i64 c.mn,.int .i64 c.lw,.int .i64 c.hi] t)) w.heap.size c p pc q qc :=
 ⟨θ w _ t 0,θ w _ t 1,θ w _ t 2,θ w _ t 3,θ w _ t 4,by simp⟩
end Zn
namespace Dz
open Fr Bd Zn
def Hn (p:Nat->Bool)(n:Nat)(r:Int):Prop:=(r = -1/\∀j,j<n->p j=false)\/∃i:Nat,i<n/\r=i/\p i=true/\∀j,j<i->p j=false
theorem Hn.has {p:Nat->Bool}{n:Nat}{r:Int}(h:Hn p n r):decide (0<=r)=(List.range n).any p:=by
 rcases h with⟨rfl,h⟩|⟨i,hi,rfl,hp,_⟩
 ·have:(List.range n).any p=false:=by simp;exact h
  rw[this];rfl
 ·have:(List.range n).any p=true:=by simp;exact⟨i,hi,hp⟩
  rw[this];simp
theorem qB {p:Nat->Bool}{i:Nat}(h:∀j,j<i->p j=false)(hi:p i=false):∀j,j<i+1->p j=false:=λj E=>by
 by_cases e:j=i
 ·subst e;exact hi
 ·exact h j (by omega)
theorem xq (q:Option Addr)(n c:Nat)(z:Nat->Int)(g:Nat)(lb:Array Value)(p:Nat->Bool)(eg:∀args w,(callFunc g args).run prog w=.ok (.enter g args) w)(w:World)
  (hz:j4 w q n z)(hn:n<=1000)(hp:∀i,i<n->∀W,Below w.heap.size w W->Calls prog g (#[.int .i64 (z i)]++lb) W λev W'=>ev=.returned (.bool (p i))/\Below w.heap.size w W'):
  Calls prog 227 #[.slice q n c,.func (.func g) #[] lb] w λev w'=>∃r:Int,ev=.returned (.int .i64 r)/\Hn p n r/\Below w.heap.size w w':=by
 have HP:=I hp;clear hp;go_enter func227,ntmps227;go_wp2;go_loopw [8] (λs wr=>∃i:Nat,s=.int .i64 i/\i<=n/\Below w.heap.size w wr/\Hid (∀j,j<i->p j=false)) (λs _=>n-(intOf s).toNat)
 case atStart=>exact⟨0,rfl,Γ _,γ _ _,λj E=>by omega⟩
 case round =>
  obtain⟨i,rfl,hi,J,ha⟩:=hrel;by_cases eY:i<n
  ·obtain⟨blk,off,rfl,hbl,K⟩:=hz i eY;have hc2:=(J.cell (p:=⟨blk,off+i,none⟩) hbl).trans K;have ew:=(Z HP) i eY wr J;clear K hbl;generalize z i=y at hc2 ew;cases hq:p i with
   |true =>
    have HA:=I (show(∃i':Nat,i'<n/\((i:Int))=i'/\p i'=true/\∀j,j<i'->p j=false)from⟨i,eY,rfl,hq,Z ha⟩);rw[hq]at ew;have HC:=I ew;clear ew ha hq;go_wp2_with (go_at_fn g;refine(Z HC).mono ?_;rintro e w'⟨rfl,hb'⟩);go_ret;exact⟨_,rfl,δ (Z HA),hb'⟩
   |false =>
    have HA:=I (qB (Z ha) hq);rw[hq]at ew;have HC:=I ew;clear ew ha hq;go_wp2_with (go_at_fn g;refine(Z HC).mono ?_;rintro e w'⟨rfl,hb'⟩);go_roundw;case rel=>exact⟨i+1,by go_num,by omega,hb',HA⟩
    case measure=>simp[intOf];omega
  ·have nN:i=n:=by omega
   subst nN;go_wp2;go_ret;exact⟨_,rfl,ε ⟨rfl,Z ha⟩,J⟩
theorem rj (q:Option Addr)(n c:Nat)(z:Nat->Int)(g:Nat)(lb:Array Value)(p:Nat->Bool)(eg:∀args w,(callFunc g args).run prog w=.ok (.enter g args) w)(w:World)
  (hz:j4 w q n z)(hn:n<=1000)(hp:∀i,i<n->∀W,Below w.heap.size w W->Calls prog g (#[.int .i64 (z i)]++lb) W λev W'=>ev=.returned (.bool (p i))/\Below w.heap.size w W'):
  Calls prog 230 #[.slice q n c,.func (.func g) #[] lb] w λev w'=>ev=.returned (.bool ((List.range n).any p))/\Below w.heap.size w w':=by
 have H:=I (xq q n c z g lb p eg w hz hn hp);have H2:=I (λr (h:Hn p n r)=>h.has);clear hp hz;generalize(List.range n).any p=d at*;go_enter func230,ntmps230;go_wp2_with fail;refine(Z H).mono ?_;rintro ev w'⟨r,rfl,hr,hb'⟩;have hd:=(Z H2) r hr;clear hr;go_wp2_with fail;go_ret;exact⟨by rw[<- hd];rfl,hb'⟩
theorem Ez (q:Option Addr)(n c:Nat)(M:Nat->Nat)(ab8:Nat->Nat->Int)(g:Nat)(lb:Array Value)(p:Nat->Bool)(eg:∀args w,(callFunc g args).run prog w=.ok (.enter g args) w)(w:World)
  (hz:ri w q n M ab8)(hn:n<=1000)(hp:∀i,i<n->∀W,Below w.heap.size w W->∀pr c,j4 W pr (M i) (ab8 i)->Calls prog g (#[.slice pr (M i) c]++lb) W λev W'=>ev=.returned (.bool (p i))/\Below w.heap.size w W'):
  Calls prog 277 #[.slice q n c,.func (.func g) #[] lb] w λev w'=>∃r:Int,ev=.returned (.int .i64 r)/\Hn p n r/\Below w.heap.size w w':=by
 have HP:=I hp;clear hp;go_enter func277,ntmps277;go_wp2;go_loopw [8] (λs wr=>∃i:Nat,s=.int .i64 i/\i<=n/\Below w.heap.size w wr/\Hid (∀j,j<i->p j=false)) (λs _=>n-(intOf s).toNat)
 case atStart=>exact⟨0,rfl,Γ _,γ _ _,λj E=>by omega⟩
 case round =>
  obtain⟨i,rfl,hi,J,ha⟩:=hrel;by_cases eY:i<n
  ·obtain⟨blk,off,pr,cc,rfl,hbl,K,EA,_⟩:=hz i eY;have hc2:=(J.cell (p:=⟨blk,off+i,none⟩) hbl).trans K;have ew:=(Z HP) i eY wr J pr cc (EA.b J);clear K hbl EA;generalize M i=y at hc2 ew;cases hq:p i with
   |true =>
    have HA:=I (show(∃i':Nat,i'<n/\((i:Int))=i'/\p i'=true/\∀j,j<i'->p j=false)from⟨i,eY,rfl,hq,Z ha⟩);rw[hq]at ew;have HC:=I ew;clear ew ha hq;go_wp2_with (go_at_fn g;refine(Z HC).mono ?_;rintro e w'⟨rfl,hb'⟩);go_ret;exact⟨_,rfl,δ (Z HA),hb'⟩
   |false =>
    have HA:=I (qB (Z ha) hq);rw[hq]at ew;have HC:=I ew;clear ew ha hq;go_wp2_with (go_at_fn g;refine(Z HC).mono ?_;rintro e w'⟨rfl,hb'⟩);go_roundw;case rel=>exact⟨i+1,by go_num,by omega,hb',HA⟩
    case measure=>simp[intOf];omega
  ·have nN:i=n:=by omega
   subst nN;go_wp2;go_ret;exact⟨_,rfl,ε ⟨rfl,Z ha⟩,J⟩
theorem EB (q:Option Addr)(n c:Nat)(M:Nat->Nat)(ab8:Nat->Nat->Int)(g:Nat)(lb:Array Value)(p:Nat->Bool)(eg:∀args w,(callFunc g args).run prog w=.ok (.enter g args) w)(w:World)
  (hz:ri w q n M ab8)(hn:n<=1000)(hp:∀i,i<n->∀W,Below w.heap.size w W->∀pr c,j4 W pr (M i) (ab8 i)->Calls prog g (#[.slice pr (M i) c]++lb) W λev W'=>ev=.returned (.bool (p i))/\Below w.heap.size w W'):
  Calls prog 244 #[.slice q n c,.func (.func g) #[] lb] w λev w'=>ev=.returned (.bool ((List.range n).any p))/\Below w.heap.size w w':=by
 have H:=I (Ez q n c M ab8 g lb p eg w hz hn hp);have H2:=I (λr (h:Hn p n r)=>h.has);clear hp hz;generalize(List.range n).any p=d at*;go_enter func244,ntmps244;go_wp2_with fail;refine(Z H).mono ?_;rintro ev w'⟨r,rfl,hr,hb'⟩;have hd:=(Z H2) r hr;clear hr;go_wp2_with fail;go_ret;exact⟨by rw[<- hd];rfl,hb'⟩
theorem Aa (q:Option Addr)(L:List Bl)(n c:Nat)(g:Nat)(lb:Array Value)(p:Nat->Bool)(eg:∀args w,(callFunc g args).run prog w=.ok (.enter g args) w)(w:World)
  (hl:L.length=n)(hz:L≠[]->∃g',q=some ⟨g',0,none⟩/\Row w g' L)(hn:n<=1000)(hp:∀i,i<n->∀W,Below w.heap.size w W->Calls prog g (#[fJ (L.getD i (0,0)).1 (L.getD i (0,0)).2]++lb) W λev W'=>ev=.returned (.bool (p i))/\Below w.heap.size w W'):
  Calls prog 257 #[.slice q n c,.func (.func g) #[] lb] w λev w'=>∃r:Int,ev=.returned (.int .i64 r)/\Hn p n r/\Below w.heap.size w w':=by
 have HP:=I hp;clear hp;go_enter func257,ntmps257;go_wp2;go_loopw [8] (λs wr=>∃i:Nat,s=.int .i64 i/\i<=n/\Below w.heap.size w wr/\Hid (∀j,j<i->p j=false)) (λs _=>n-(intOf s).toNat)
 case atStart=>exact⟨0,rfl,Γ _,γ _ _,λj E=>by omega⟩
 case round =>
  obtain⟨i,rfl,hi,J,ha⟩:=hrel;by_cases eY:i<n
  ·obtain⟨g',rfl,hR⟩:=hz (λe=>by rw[e]at hl;simp at hl;omega);obtain⟨c1,c2⟩:=(hR.b J).c i (by omega);have ew:=(Z HP) i eY wr J;unfold fJ at ew;clear hR;generalize(L.getD i (0,0)).1=y1 at c1 ew;generalize(L.getD i (0,0)).2=y2 at c2 ew;cases hq:p i with
   |true =>
    have HA:=I (show(∃i':Nat,i'<n/\((i:Int))=i'/\p i'=true/\∀j,j<i'->p j=false)from⟨i,eY,rfl,hq,Z ha⟩);rw[hq]at ew;have HC:=I ew;clear ew ha hq;go_wp2_with (go_at_fn g;refine(Z HC).mono ?_;rintro e w'⟨rfl,hb'⟩);go_ret;exact⟨_,rfl,δ (Z HA),hb'⟩
   |false =>
    have HA:=I (qB (Z ha) hq);rw[hq]at ew;have HC:=I ew;clear ew ha hq;go_wp2_with (go_at_fn g;refine(Z HC).mono ?_;rintro e w'⟨rfl,hb'⟩);go_roundw;case rel=>exact⟨i+1,by go_num,by omega,hb',HA⟩
    case measure=>simp[intOf];omega
  ·have nN:i=n:=by omega
   subst nN;go_wp2;go_ret;exact⟨_,rfl,ε ⟨rfl,Z ha⟩,J⟩
theorem Ab (q:Option Addr)(L:List Bl)(n c:Nat)(g:Nat)(lb:Array Value)(p:Nat->Bool)(eg:∀args w,(callFunc g args).run prog w=.ok (.enter g args) w)(w:World)
  (hl:L.length=n)(hz:L≠[]->∃g',q=some ⟨g',0,none⟩/\Row w g' L)(hn:n<=1000)(hp:∀i,i<n->∀W,Below w.heap.size w W->Calls prog g (#[fJ (L.getD i (0,0)).1 (L.getD i (0,0)).2]++lb) W λev W'=>ev=.returned (.bool (p i))/\Below w.heap.size w W'):
  Calls prog 224 #[.slice q n c,.func (.func g) #[] lb] w λev w'=>ev=.returned (.bool ((List.range n).any p))/\Below w.heap.size w w':=by
 have H:=I (Aa q L n c g lb p eg w hl hz hn hp);have H2:=I (λr (h:Hn p n r)=>h.has);clear hp hz hl;generalize(List.range n).any p=d at*;go_enter func224,ntmps224;go_wp2_with fail;refine(Z H).mono ?_;rintro ev w'⟨r,rfl,hr,hb'⟩;have hd:=(Z H2) r hr;clear hr;go_wp2_with fail;go_ret;exact⟨by rw[<- hd];rfl,hb'⟩
def out (lo hi n:Int):Bool:=decide (n<lo)||decide (n>hi)
def Out (w:World)(lb:Array Value)(lo hi:Int):Prop:=∃b0 b1,lb=#[.pointer (some ⟨b0,0,none⟩),.pointer (some ⟨b1,0,none⟩)]/\w.cell? ⟨b0,0,none⟩=some (.int .i64 lo)/\w.cell? ⟨b1,0,none⟩=some (.int .i64 hi)/\b0<w.heap.size/\b1<w.heap.size
theorem Out.b {w w':World}{lb:Array Value}{lo hi:Int}(h:Out w lb lo hi)(J:Below w.heap.size w w'):Out w' lb lo hi:=by
 obtain⟨b0,b1,rfl,c0,c1,l0,l1⟩:=h;exact⟨b0,b1,rfl,(J.cell (p:=⟨b0,0,none⟩) l0).trans c0,(J.cell (p:=⟨b1,0,none⟩) l1).trans c1,ι l0 J.size,ι l1 J.size⟩
theorem vg (lb:Array Value)(lo hi n:Int)(w:World)(h:Out w lb lo hi):
  Calls prog 276 (#[.int .i64 n]++lb) w λev w'=>ev=.returned (.bool (out lo hi n))/\Below w.heap.size w w':=by
 obtain⟨b0,b1,rfl,c0,c1,_,_⟩:=h;simp only[dQ,cJ,aT];unfold out;cases G:decide (n<lo)
 ·cases O:decide (n>hi)
  ·go_enter func276,ntmps276;go_wp2;go_ret;exact⟨rfl,γ _ _⟩
  ·go_enter func276,ntmps276;go_wp2;go_ret;exact⟨rfl,γ _ _⟩
 ·go_enter func276,ntmps276;go_wp2;go_ret;exact⟨rfl,γ _ _⟩
theorem iA (lo hi:Int)(w:World):
  Calls prog 243 #[.int .i64 lo,.int .i64 hi] w λev w'=>∃lb,ev=.returned (.func (.func 276) #[] lb)/\Out w' lb lo hi/\Below w.heap.size w w':=by
 go_enter func243,ntmps243;go_wp2;go_ret;exact⟨_,rfl,⟨_,_,rfl,by simp,by simp,by simp;omega,by simp⟩,χ (χ (γ _ _) _) _⟩
theorem OP:∀args w,(callFunc 276 args).run prog w=.ok (.enter 276 args) w:=fy func276 (by kernel_rfl) rfl
theorem aag:∀args w,(callFunc 245 args).run prog w=.ok (.enter 245 args) w:=fy func245 (by kernel_rfl) rfl
theorem LW (lb:Array Value)(tb:Nat)(pr:Option Addr)(m c:Nat)(z:Nat->Int)(w:World)(K:w.cell? ⟨tb,0,none⟩=some (.func (.func 276) #[] lb))(h:Out w lb 0 1000)(hz:j4 w pr m z)(hm:m<=1000):
  Calls prog 245 (#[.slice pr m c] ++ #[.pointer (some ⟨tb,0,none⟩)]) w λev w'=>ev=.returned (.bool ((List.range m).any λi=>out 0 1000 (z i)))/\Below w.heap.size w w':=by
 have H:=I (rj pr m c z 276 lb (λi=>out 0 1000 (z i)) OP w hz hm (λi _ W hW=>vg lb 0 1000 (z i) W (h.b hW)|>.mono λe w' hh=>⟨hh.1,bW hW hh.2⟩));clear h hz;simp only[dQ,cJ,aT];generalize(List.range m).any (λi=>out 0 1000 (z i))=d at*;go_enter func245,ntmps245;go_wp2_with fail;refine(Z H).mono ?_;rintro ev w'⟨rfl,hb'⟩;go_wp2_with fail;go_ret;exact⟨rfl,hb'⟩
def Ve (c:Cf):Bool:=!(out 1 4 c.n)&&(!((List.range c.n).any λi=>out 1 256 (c.P i))&&(!((List.range c.m).any λi=>(List.range (c.M i)).any λk=>out 0 1000 (c.ab8 i k))&&(decide (0<=c.mn)&&decide (c.mn<=c.lw)&&decide (c.lw<=c.hi))))
theorem LX (c:Cf):Ve c=true↔¬c.j7:=by
 unfold Ve Cf.j7 out;simp only[eG,Bool.not_eq_true',Bool.or_eq_false_iff,decide_eq_false_iff_not,List.any_eq_false,fw,Bool.or_eq_true,dh,gG];constructor
 ·rintro⟨⟨G,O⟩,h3,h4,⟨h5,h6⟩,h7⟩ hh;rcases hh with h|h|⟨i,hi,h⟩|⟨i,hi,k,D,h⟩|h|h|h
  ·omega
  ·omega
  ·exact h3 i hi (by omega)
  ·exact h4 i hi ⟨k,D,by omega⟩
  ·omega
  ·omega
  ·omega
 ·intro h;refine⟨⟨λa=>h (ε (by omega)),λa=>h (δ (ε (by omega)))⟩,λi hi a=>h (δ (δ (ε ⟨i,hi,by omega⟩))),λi hi ⟨k,D,a⟩=>h (δ (δ (δ (ε ⟨i,hi,k,D,by omega⟩)))),⟨?_,?_⟩,?_⟩
  ·exact eu.1 λa=>h (δ (δ (δ (δ (ε a)))))
  ·exact eu.1 λa=>h (δ (δ (δ (δ (δ (ε a))))))
  ·exact eu.1 λa=>h (δ (δ (δ (δ (δ (δ a))))))
theorem QW (c:Cf)(p q:Option Addr)(pc qc:Nat)(w:World)(h:At w c p q)(hwd:¬c.wide):
  Calls prog 193 #[sK c p pc q qc] w λev w'=>ev=.returned (.bool (Ve c))/\Below w.heap.size w w':=by
 unfold sK;have BX:=ji w c p q pc qc 127;have F1:=χ (γ w.heap.size w) (.cells #[.slice p c.n pc,.slice q c.m qc,.int .i64 c.mn,.int .i64 c.lw,.int .i64 c.hi] 127);have A1:=h.b F1;have LZ:c.n<=20:=bE λh=>hwd (ε h);have QX:c.m<=20:=bE λh=>hwd (δ (ε h));have TH:∀i,i<c.m->c.M i<=20:=λi hi=>bE λh=>hwd (δ (δ ⟨i,hi,h⟩));have HP:=I (λw (h:j4 w p c.n c.P) (lb:Array Value) (ho:Out w lb 1 256)=>rj p c.n pc c.P 276 lb (λi=>out 1 256 (c.P i)) OP w h (by omega) (λi _ W hW=>vg lb 1 256 (c.P i) W (ho.b hW)|>.mono λe w' hh=>⟨hh.1,bW hW hh.2⟩));have HD:=I (λw (h:ri w q c.m c.M c.ab8) (lb:Array Value) (tb:Nat) (K:w.cell? ⟨tb,0,none⟩=some (.func (.func 276) #[] lb)) (hl:tb<w.heap.size) (ho:Out w lb 0 1000)=>EB q c.m qc c.M c.ab8 245 #[.pointer (some ⟨tb,0,none⟩)] (λi=>(List.range (c.M i)).any λk=>out 0 1000 (c.ab8 i k)) aag w h (by omega) (λi hi W hW pr cc hn=>LW lb tb pr (c.M i) cc (c.ab8 i) W ((hW.cell (p:=⟨tb,0,none⟩) hl).trans K) (ho.b hW) hn (by have:=TH i hi;omega)|>.mono λe w' hh=>⟨hh.1,bW hW hh.2⟩));have HI:Hid (Ve c=(!(out 1 4 c.n)&&(!((List.range c.n).any λi=>out 1 256 (c.P i))&&(!((List.range c.m).any λi=>(List.range (c.M i)).any λk=>out 0 1000 (c.ab8 i k))&&(decide (0<=c.mn)&&decide (c.mn<=c.lw)&&decide (c.lw<=c.hi)))))):=rfl;have HO:=I (λlb w h=>vg lb 1 4 c.n w h);clear h hwd LZ QX TH;rw[Z HI];clear HI;generalize(List.range c.n).any (λi=>out 1 256 (c.P i))=x2 at*;generalize(List.range c.m).any (λi=>(List.range (c.M i)).any λk=>out 0 1000 (c.ab8 i k))=x3 at*;generalize out 1 4 c.n=x1 at*;obtain⟨n,P,m,M,ab8,mn,lw,hi⟩:=c;simp only at*;go_enter func193,ntmps193;go_wp2_with fail;generalize w.alloc (.cells #[.slice p n pc,.slice q m qc,.int .i64 mn,.int .i64 lw,.int .i64 hi] 127)=W at*;have b0:=BX.c0;have b1:=BX.c1;have b2:=BX.c2;have b3:=BX.c3;have b4:=BX.c4;have hbl:=BX.lt;simp only at b0 b1 b2 b3 b4;have KC:=I (λw1 (J:Below W.heap.size W w1)=>(J.cell (p:=⟨w.heap.size,0,none⟩) hbl).trans b0);have KF:=I (λw1 (J:Below W.heap.size W w1)=>F1.trans (J.mono F1.size));have KA:=I (λw1 (J:Below W.heap.size W w1)=>A1.b J);have KB:=I (λw1 (J:Below W.heap.size W w1)=>show w1.cell? ⟨w.heap.size,1,none⟩=some (.slice q m qc)/\w1.cell? ⟨w.heap.size,2,none⟩=some (.int .i64 mn)/\w1.cell? ⟨w.heap.size,3,none⟩=some (.int .i64 lw)/\w1.cell? ⟨w.heap.size,4,none⟩=some (.int .i64 hi)from⟨(J.cell (p:=⟨w.heap.size,1,none⟩) hbl).trans b1,(J.cell (p:=⟨w.heap.size,2,none⟩) hbl).trans b2,(J.cell (p:=⟨w.heap.size,3,none⟩) hbl).trans b3,(J.cell (p:=⟨w.heap.size,4,none⟩) hbl).trans b4⟩);clear A1 F1 BX b1 b2 b3 b4;have tk:True:=trivial;have KJ:True:=trivial;cases x1 with
 |true =>
  clear HP HD KA KB;first
  |(go_region_law (first
   |(have _t:=tk;go_simp;go_at_call 243;refine(iA 1 4 _).mono ?_;rintro ev w2⟨lb,rfl,ho,b2⟩;have k2:Below W.heap.size W w2:=bd b2;have c2:=(Z KC) w2 k2;clear tk)
   |(go_simp;go_at_call 276;refine((Z HO) lb _ (by first|exact ho|exact ho.b (dw _))).mono ?_;rintro ev w3⟨rfl,Cv⟩;have k3:=k2.trans (Cv.mono k2.size))))
  |skip
  all_goals
   go_wp2;go_ret;exact⟨rfl,(Z KF) _ k3⟩
 |false =>
  cases x2 with
  |true =>
   clear HD KB;first
   |(go_region_law (first
    |(have _t:=tk;go_simp;go_at_call 243;refine(iA 1 4 _).mono ?_;rintro ev w2⟨lb,rfl,ho,b2⟩;have k2:Below W.heap.size W w2:=bd b2;have c2:=(Z KC) w2 k2;clear tk)
    |(go_simp;go_at_call 276;refine((Z HO) lb _ (by first|exact ho|exact ho.b (dw _))).mono ?_;rintro ev w3⟨rfl,Cv⟩;have k3:=k2.trans (Cv.mono k2.size);have c3:=(Z KC) w3 k3)
    |(have _t:=KJ;go_simp;go_at_call 243;refine(iA 1 256 _).mono ?_;rintro ev w4⟨lb4,rfl,YJ,b4'⟩;have k4:=k3.trans (b4'.mono k3.size);have c4:=(Z KC) w4 k4;clear KJ)
    |(go_simp;go_at_call 230;refine((Z HP) w4 ((Z KA) w4 k4).ps lb4 YJ).mono ?_;rintro ev w5⟨rfl,Gq⟩;have k5:=k4.trans (Gq.mono k4.size))))
   |skip
   all_goals
    go_wp2;go_ret;exact⟨rfl,(Z KF) _ k5⟩
  |false =>
   first
   |(go_region_law (first
    |(have _t:=tk;go_simp;go_at_call 243;refine(iA 1 4 _).mono ?_;rintro ev w2⟨lb,rfl,ho,b2⟩;have k2:Below W.heap.size W w2:=bd b2;have c2:=(Z KC) w2 k2;clear tk)
    |(go_simp;go_at_call 276;refine((Z HO) lb _ (by first|exact ho|exact ho.b (dw _))).mono ?_;rintro ev w3⟨rfl,Cv⟩;have k3:=k2.trans (Cv.mono k2.size);have c3:=(Z KC) w3 k3)
    |(have _t:=KJ;go_simp;go_at_call 243;refine(iA 1 256 _).mono ?_;rintro ev w4⟨lb4,rfl,YJ,b4'⟩;have k4:=k3.trans (b4'.mono k3.size);have c4:=(Z KC) w4 k4;clear KJ)
    |(go_simp;go_at_call 230;refine((Z HP) w4 ((Z KA) w4 k4).ps lb4 YJ).mono ?_;rintro ev w5⟨rfl,Gq⟩;have k5:=k4.trans (Gq.mono k4.size))))
   |skip
   all_goals
    clear ho YJ k2 k3 k4 c2 c3 c4 HP HO;go_wp2_with fail;refine(iA 0 1000 _).mono ?_;rintro ev w6⟨lb6,rfl,ho6,b6⟩;have k6:=χ (k5.trans (b6.mono k5.size)) (.cells #[.func (.func 276) #[] lb6] 146);have HX:=I ((Z HD) _ ((Z KA) _ k6).rs lb6 w6.heap.size (θ w6 _ 146 0) (by simp) (ho6.b (χ (γ _ _) _)));have hb1:=((Z KB) _ k6).1;clear ho6 HD;go_wp2_with fail;refine(Z HX).mono ?_;rintro ev w7⟨rfl,b7⟩;have k7:=k6.trans (b7.mono k6.size);obtain⟨_,y2,y3,y4⟩:=(Z KB) _ k7;have HF:=I ((Z KF) _ k7);clear KB KC KF KA k5 b6 k6 b7 k7 HX hb1;cases x3 with
    |true =>
     go_wp2;go_ret;exact⟨rfl,Z HF⟩
    |false =>
     by_cases e1:0<=mn
     ·have d1:decide (0<=mn)=true:=by simpa using e1
      by_cases e2:mn<=lw
      ·have d2:decide (mn<=lw)=true:=by simpa using e2
       by_cases e3:lw<=hi
       ·have d3:decide (lw<=hi)=true:=by simpa using e3
        go_wp2;go_ret;exact⟨by rw[d1,d2,d3];rfl,Z HF⟩
       ·have d3:decide (lw<=hi)=false:=by simpa using e3
        go_wp2;go_ret;exact⟨by rw[d1,d2,d3];rfl,Z HF⟩
      ·have d2:decide (mn<=lw)=false:=by simpa using e2
       go_wp2;go_ret;exact⟨by rw[d1,d2];rfl,Z HF⟩
     ·have d1:decide (0<=mn)=false:=by simpa using e1
      go_wp2;go_ret;exact⟨by rw[d1];rfl,Z HF⟩
end Dz
namespace Zn
open Fr Bd
theorem lt_next {p:Nat->Prop}{i:Nat}(h:∀j,j<i->p j)(hi:p i):∀j,j<i+1->p j:=λj E=>by
 rcases bC j i with h'|h'
 ·exact h j h'
 ·obtain rfl:j=i:=by omega
  exact hi
theorem L0 (c:Cf)(p q:Option Addr)(pc qc:Nat)(w:World)(h:At w c p q)(hwd:¬c.wide):
  Calls prog 63 #[sK c p pc q qc] w λev w'=>∃e:Int,ev=.returned (.int .i64 e)/\c.is e/\Below w.heap.size w w':=by
 unfold sK;have BX:=ji w c p q pc qc 122;have F1:=I (χ (γ w.heap.size w) (.cells #[.slice p c.n pc,.slice q c.m qc,.int .i64 c.mn,.int .i64 c.lw,.int .i64 c.hi] 122));have A1:=h.b (Z F1);have R2:Hid (c.j7->c.is 2):=λh=>ε ⟨rfl,h⟩;have R3:Hid (¬c.j7->¬c.wJ\/c.lL->c.is 3):=λh O=>δ (ε ⟨rfl,h,O⟩);have R0:Hid (¬c.j7->c.wJ->¬c.lL->c.is 0):=λh O h3=>δ (δ ⟨rfl,h,O,h3⟩);have H2:=I (show c.j7↔(c.n<1\/4<c.n\/(∃i,i<c.n/\(c.P i<1\/256<c.P i))\/(∃i,i<c.m/\∃k,k<c.M i/\(c.ab8 i k<0\/1000<c.ab8 i k))\/c.mn<0\/c.lw<c.mn\/c.hi<c.lw)from Iff.rfl);have HS:=I (show c.wJ↔(c.m=c.n/\∀i,i<c.m->c.M i=c.n)from Iff.rfl);have H3:=I (show c.lL↔(∃i,i<c.n/\∃k,k<c.n/\i≠k/\c.ab8 i k<=c.ab8 i i)from Iff.rfl);have LZ:c.n<=20:=bE λh=>hwd (ε h);have QX:c.m<=20:=bE λh=>hwd (δ (ε h));have TH:Hid (∀i,i<c.m->c.M i<=20):=λi hi=>bE λh=>hwd (δ (δ ⟨i,hi,h⟩));clear h hwd;generalize c.is=IS at*;generalize c.j7=B2 at*;generalize c.wJ=SH at*;generalize c.lL=B3 at*;obtain⟨n,P,m,M,ab8,mn,lw,hi⟩:=c;simp only at*;obtain⟨A0,A1⟩:=A1;simp only at A0 A1;by_cases G:n<1\/4<n
 ·have d1:decide ((n:Int)<1)=true\/(decide ((n:Int)<1)=false/\decide ((4:Int)<n)=true):=by simp;omega
  have hr:=I ((Z R2) ((Z H2).2 (by rcases G with h|h<;>simp[h])));clear A0 A1 R2 R3 R0 H2 HS H3 BX;rcases d1 with d1|⟨d1,d2⟩
  all_goals
   go_enter func63,ntmps63;go_wp2;go_ret;exact⟨2,rfl,Z hr,Z F1⟩
 have d1:decide ((n:Int)<1)=false:=by simp;omega
 have d2:decide ((4:Int)<n)=false:=by simp;omega
 go_enter func63,ntmps63;go_wp2_with fail;generalize w.alloc (.cells #[.slice p n pc,.slice q m qc,.int .i64 mn,.int .i64 lw,.int .i64 hi] 122)=W at*;have b0:=BX.c0;have b1:=BX.c1;have b2:=BX.c2;have b3:=BX.c3;have b4:=BX.c4;have aah:=BX.lt;simp only at b0 b1 b2 b3 b4;clear BX d1 d2;have A0:=I A0;have A1:=I A1;go_loopw [4] (λa wr=>∃i:Nat,a=.int .i64 i/\i<=n/\W=wr/\Hid (∀j,j<i->1<=P j/\P j<=256)) (λa _=>n-(intOf a).toNat)
 case atStart=>exact⟨0,rfl,Γ _,rfl,λj E=>by omega⟩
 case round =>
  obtain⟨i,rfl,hi',rfl,hP⟩:=hrel;have oG:(0:Int)<=i:=by omega
  by_cases eY:i<n
  ·have hlt:(i:Int)<n:=by omega
   obtain⟨blk,off,rfl,hbl,K⟩:=(Z A0) i eY;by_cases hx:P i<1\/256<P i
   ·have d3:decide (P i<1)=true\/(decide (P i<1)=false/\decide (256<P i)=true):=by simp;omega
    have hr:=I ((Z R2) ((Z H2).2 (δ (δ (ε ⟨i,eY,hx⟩)))));clear R2 R3 R0 H2 HS H3 A0 A1 hx hP;generalize P i=x at*;rcases d3 with d3|⟨d3,d4⟩
    all_goals
     go_wp2;go_ret;exact⟨2,rfl,Z hr,Z F1⟩
   ·have d3:decide (P i<1)=false:=by simp;omega
    have d4:decide (256<P i)=false:=by simp;omega
    have hN:=I (lt_next (p:=λj=>1<=P j/\P j<=256) (Z hP) (by omega));clear R2 R3 R0 H2 HS H3 A0 A1 hx hP;generalize P i=x at*;go_wp2;go_roundw;case rel=>exact⟨i+1,by go_num,by omega,(by first|rfl|trivial),hN⟩
    case measure=>simp[intOf];omega
  ·have hlt:¬(i:Int)<n:=by omega
   obtain rfl:n=i:=by omega
   clear eY hi';have QY:=I (show ¬∃i,i<n/\(P i<1\/256<P i)from λ⟨j,k1,k2⟩=>by have:=(Z hP) j k1;omega);clear hP A0;go_wp2_with fail;go_loopw [5,6] (λs a wr=>∃(sh:Bool) (i:Nat),s=.bool sh/\a=.int .i64 i/\i<=m/\W=wr/\Hid (∀j,j<i->∀k,k<M j->0<=ab8 j k/\ab8 j k<=1000)/\Hid (sh=true↔m=n/\∀j,j<i->M j=n)) (λ_ a _=>m-(intOf a).toNat)
   case atStart=>exact⟨_,0,rfl,rfl,Γ _,rfl,λj E=>by omega,by simp[Hid];omega⟩
   case round =>
    obtain⟨sh,i,rfl,rfl,hi',rfl,hD,hS⟩:=hrel;have oG:(0:Int)<=i:=by omega
    by_cases eY:i<m
    ·have hlt:(i:Int)<m:=by omega
     obtain⟨blk,off,pr,cc,rfl,hbl,K,hrow,_⟩:=(Z A1) i eY;have hrow:=I hrow;have hMi:=(Z TH) i eY;go_wp2_with fail;go_loopw [7] (λa wr=>∃k:Nat,a=.int .i64 k/\k<=M i/\W=wr/\Hid (∀j,j<k->0<=ab8 i j/\ab8 i j<=1000)) (λa _=>M i-(intOf a).toNat)
     case atStart=>exact⟨0,rfl,Γ _,rfl,λj E=>by omega⟩
     case round =>
      obtain⟨k,rfl,nB,rfl,hK⟩:=hrel;have aai:(0:Int)<=k:=by omega
      by_cases vh:k<M i
      ·have L3:(k:Int)<M i:=by omega
       obtain⟨Ho,nS,rfl,rk,hc2⟩:=(Z hrow) k vh;by_cases hx:ab8 i k<0\/1000<ab8 i k
       ·have d3:decide (ab8 i k<0)=true\/(decide (ab8 i k<0)=false/\decide (1000<ab8 i k)=true):=by simp;omega
        have hr:=I ((Z R2) ((Z H2).2 (δ (δ (δ (ε ⟨i,eY,k,vh,hx⟩))))));clear R2 R3 R0 H2 HS H3 A1 hx hD hS hK;generalize ab8 i k=x at*;generalize M i=l at*;rcases d3 with d3|⟨d3,d4⟩
        all_goals
         go_wp2;go_ret;exact⟨2,rfl,Z hr,Z F1⟩
       ·have d3:decide (ab8 i k<0)=false:=by simp;omega
        have d4:decide (1000<ab8 i k)=false:=by simp;omega
        have hN:=I (lt_next (p:=λj=>0<=ab8 i j/\ab8 i j<=1000) (Z hK) (by omega));clear R2 R3 R0 H2 HS H3 A1 hx hD hS hK;generalize ab8 i k=x at*;generalize M i=l at*;go_wp2;go_roundw;case rel=>exact⟨k+1,by go_num,by omega,(by first|rfl|trivial),hN⟩
        case measure=>simp[intOf];omega
      ·have L3:¬(k:Int)<M i:=by omega
       have TI:=I (lt_next (p:=λj=>∀k,k<M j->0<=ab8 j k/\ab8 j k<=1000) (Z hD) (λj E=>(Z hK) j (by omega)));clear hD hK hrow;by_cases hM:M i=n
       ·have hS2:Hid (sh=true↔m=n/\∀j,j<i+1->M j=n):=(Z hS).trans ⟨λ⟨G,O⟩=>⟨G,lt_next O hM⟩,λ⟨G,O⟩=>⟨G,λj E=>O j (by omega)⟩⟩;have e1:((M i:Int)!=n)=false:=by simp[hM]
        clear hS hM;generalize M i=l at*;go_wp2;go_roundw;case rel=>exact⟨sh,i+1,rfl,by go_num,by omega,(by first|rfl|trivial),TI,hS2⟩
        case measure=>simp[intOf];omega
       ·have hS2:Hid ((false:Bool)=true↔m=n/\∀j,j<i+1->M j=n):=Iff.intro (λh=>by cases h) (λh=>absurd (h.2 i (by omega)) hM);have e1:((M i:Int)!=n)=true:=by simp;omega
        clear hS;generalize M i=l at*;go_wp2;go_roundw;case rel=>exact⟨false,i+1,rfl,by go_num,by omega,(by first|rfl|trivial),TI,hS2⟩
        case measure=>simp[intOf];omega
    ·have hlt:¬(i:Int)<m:=by omega
     obtain rfl:m=i:=by omega
     clear eY hi';have TI:=I (show ¬∃i',i'<m/\∃k,k<M i'/\(ab8 i' k<0\/1000<ab8 i' k)from λ⟨j,k1,k,k2,k3⟩=>by have:=(Z hD) j k1 k k2;omega);clear hD;by_cases hx:mn<0\/lw<mn\/hi<lw
     ·have hr:=I ((Z R2) ((Z H2).2 (δ (δ (δ (δ hx))))));have d:decide (mn<0)=true\/(decide (mn<0)=false/\decide (lw<mn)=true)\/(decide (mn<0)=false/\decide (lw<mn)=false/\decide (hi<lw)=true):=by simp;omega
      clear R2 R3 R0 H2 HS H3 A1 hx TI hS QY;rcases d with d3|⟨d3,d4⟩|⟨d3,d4,d5⟩
      all_goals
       go_wp2;go_ret;exact⟨2,rfl,Z hr,Z F1⟩
     ·have d3:decide (mn<0)=false:=by simp;omega
      have d4:decide (lw<mn)=false:=by simp;omega
      have d5:decide (hi<lw)=false:=by simp;omega
      have mS:=I (show ¬B2 from λh=>by
       rcases(Z H2).1 h with h|h|h|h|h
       ·omega
       ·omega
       ·exact(Z QY) h
       ·exact(Z TI) h
       ·exact hx h)
      clear R2 H2 hx TI QY;by_cases EC:SH
      ·have hs2:=(Z HS).1 EC;obtain rfl:sh=true:=(Z hS).2 hs2;obtain⟨rfl,TJ⟩:=hs2;have TJ:=I TJ;have R0:=I ((Z R0) (Z mS) EC);have R3:=I (λh=>(Z R3) (Z mS) (δ h));have jk:w.heap.size<W.heap.size:=aah;have KB:=I (λwr (J:Below W.heap.size W wr)=>((J.cell (p:=⟨w.heap.size,1,none⟩) jk).trans b1:wr.cell? ⟨w.heap.size,1,none⟩=some (.slice q m qc)));have F0:=I (γ W.heap.size W);clear HS hS EC mS;go_wp2_with fail;clear b1 b2 b3 b4;go_loopw [8] (λa wr=>∃i:Nat,a=.int .i64 i/\i<=m/\Hid (Below W.heap.size W wr)/\Hid (∀j,j<i->∀k,k<m->j≠k->ab8 j j<ab8 j k)) (λa _=>m-(intOf a).toNat)
       case atStart=>exact⟨0,rfl,Γ _,F0,λj E=>by omega⟩
       case round =>
        obtain⟨i,rfl,hi',hB,hI⟩:=hrel;have b1:=(Z KB) _ (Z hB);have oG:(0:Int)<=i:=by omega
        by_cases eY:i<m
        ·have hlt:(i:Int)<m:=by omega
         have hMi:=(Z TJ) i eY;have abt:(M i:Int)=m:=by omega
         go_wp2_with fail;go_loopw [9] (λa wr=>∃k:Nat,a=.int .i64 k/\k<=m/\Hid (Below W.heap.size W wr)/\Hid (∀j,j<k->i≠j->ab8 i i<ab8 i j)) (λa _=>m-(intOf a).toNat)
         case atStart=>exact⟨0,rfl,Γ _,hB,λj E=>by omega⟩
         case round =>
          clear b1 hB;obtain⟨k,rfl,nB,hB,hK⟩:=hrel;have b1:=(Z KB) _ (Z hB);have aai:(0:Int)<=k:=by omega
          by_cases vh:k<m
          ·have L3:(k:Int)<m:=by omega
           obtain⟨blk,off,pr,cc,rfl,hbl,K,hrow,_⟩:=((Z A1).b (Z hB)) i eY;obtain⟨Ho,nS,rfl,rk,abu⟩:=hrow i (by omega);obtain⟨abv,abw,hp3,abx,hc3⟩:=hrow k (by omega);simp only[τ,av,bI]at hp3;obtain⟨rfl,rfl⟩:=hp3;have hiM:(i:Int)<M i:=by omega
           have hkM:(k:Int)<M i:=by omega
           by_cases hik:i=k
           ·have e1:((i:Int)!=k)=false:=by simp[hik]
            have hN:=I (lt_next (p:=λj=>i≠j->ab8 i i<ab8 i j) (Z hK) (λh=>absurd hik h));clear R3 R0 H3 hI hK hrow TJ hik;generalize ab8 i k=x at*;generalize ab8 i i=y at*;generalize M i=l at*;go_wp2_with fail;go_region
            go_wp2;go_roundw;case rel=>exact⟨k+1,by go_num,by omega,I (bW (Z hB) (dw _)),hN⟩
            case measure=>simp[intOf];omega
           ·have e1:((i:Int)!=k)=true:=by simp;omega
            by_cases hx:ab8 i k<=ab8 i i
            ·have d6:decide (ab8 i k<=ab8 i i)=true:=by simpa using hx
             have hr:=I ((Z R3) ((Z H3).2 ⟨i,eY,k,vh,hik,hx⟩));clear R3 R0 H3 hI hK hrow TJ hik hx;generalize ab8 i k=x at*;generalize ab8 i i=y at*;generalize M i=l at*;go_wp2_with fail;go_region
             go_wp2;go_ret;exact⟨3,rfl,Z hr,bW (Z F1) (bW (Z hB) (dw _))⟩
            ·have d6:decide (ab8 i k<=ab8 i i)=false:=by simpa using hx
             have hN:=I (lt_next (p:=λj=>i≠j->ab8 i i<ab8 i j) (Z hK) (λ_=>by omega));clear R3 R0 H3 hI hK hrow TJ hik hx;generalize ab8 i k=x at*;generalize ab8 i i=y at*;generalize M i=l at*;go_wp2_with fail;go_region
             go_wp2;go_roundw;case rel=>exact⟨k+1,by go_num,by omega,I (bW (Z hB) (dw _)),hN⟩
             case measure=>simp[intOf];omega
          ·have L3:¬(k:Int)<m:=by omega
           have hI2:=I (lt_next (p:=λj=>∀k,k<m->j≠k->ab8 j j<ab8 j k) (Z hI) (λj E=>(Z hK) j (by omega)));clear hI hK;go_wp2;go_roundw;case rel=>exact⟨i+1,by go_num,by omega,hB,hI2⟩
           case measure=>simp[intOf];omega
        ·have hlt:¬(i:Int)<m:=by omega
         have hr:=I ((Z R0) (λh=>by
          obtain⟨j,k1,k,k2,k3,k4⟩:=(Z H3).1 h;have:=(Z hI) j (by omega) k k2 k3;omega))
         clear R3 R0 H3 hI;go_wp2;go_ret;exact⟨0,rfl,Z hr,bW (Z F1) (Z hB)⟩
      ·obtain rfl:sh=false:=by
        cases sh
        ·rfl
        ·exact absurd ((Z HS).2 ((Z hS).1 rfl)) EC
       have hr:=I ((Z R3) (Z mS) (ε EC));clear R3 R0 HS hS EC mS H3 A1;go_wp2;go_ret;exact⟨3,rfl,Z hr,Z F1⟩
end Zn
namespace Dz
open Fr Bd Zn
def aaj (ab3:Prop)(ev:Ending):Prop:=∃d:Bool,ev=.returned (.bool d)/\(d=true↔ab3)
theorem iB {N:Nat}{w w':World}(h:Below N w w')(n:Nat):Below N w (w'.drewN n):=⟨h.os,h.tape,h.output,h.size,h.block⟩
theorem L4 (c:Cf)(p q:Option Addr)(pc qc:Nat)(w:World)(h:At w c p q)(hwd:¬c.wide):
  Calls prog 194 #[sK c p pc q qc] w λev w'=>aaj (c.wJ/\¬c.lL) ev/\Below w.heap.size w w':=by
 unfold sK;have BX:=ji w c p q pc qc 127;have F1:=I (χ (γ w.heap.size w) (.cells #[.slice p c.n pc,.slice q c.m qc,.int .i64 c.mn,.int .i64 c.lw,.int .i64 c.hi] 127));have A1:=h.b (Z F1);have R1:Hid ((c.m=c.n/\∀i,i<c.m->c.M i=c.n/\∀k,k<c.n->i≠k->c.ab8 i i<c.ab8 i k)↔c.wJ/\¬c.lL):=by
  show _↔_;unfold Cf.wJ Cf.lL;constructor
  ·rintro⟨G,O⟩;refine⟨⟨G,λi hi=>(O i hi).1⟩,λ⟨i,hi,k,D,hne,hle⟩=>?_⟩;have:=(O i (by omega)).2 k D hne;omega
  ·rintro⟨⟨G,O⟩,h3⟩;refine⟨G,λi hi=>⟨O i hi,λk D hne=>Int.not_le.1 λhle=>h3 ⟨i,by omega,k,D,hne,hle⟩⟩⟩
 have LZ:c.n<=20:=bE λh=>hwd (ε h);have QX:c.m<=20:=bE λh=>hwd (δ (ε h));have TH:Hid (∀i,i<c.m->c.M i<=20):=λi hi=>bE λh=>hwd (δ (δ ⟨i,hi,h⟩));clear h hwd;generalize(c.wJ/\¬c.lL)=GD at*;obtain⟨n,P,m,M,ab8,mn,lw,hi⟩:=c;simp only at*;have b0:=BX.c0;have b1:=BX.c1;have jk:=BX.lt;simp only at b0 b1;have OQ:=I A1.rs;simp only at OQ;clear BX A1;by_cases e1:m=n
 ·subst e1;have d1:((m:Int)!=(m:Int))=false:=by simp
  go_enter func194,ntmps194;go_wp2_with fail;generalize w.alloc (.cells #[.slice p m pc,.slice q m qc,.int .i64 mn,.int .i64 lw,.int .i64 hi] 127)=W at*;clear d1;go_wp2_with fail;have FW:=I (λw1 (J:Below W.heap.size W w1)=>(Z F1).trans (J.mono (Z F1).size));go_loopw [16] (λa wr=>∃i:Nat,a=.int .i64 i/\i<=m/\Hid (Below W.heap.size W wr)/\Hid (∀j,j<i->M j=m/\∀k,k<m->j≠k->ab8 j j<ab8 j k)) (λa _=>m-(intOf a).toNat)
  case atStart=>exact⟨0,rfl,Γ _,γ _ _,λj E=>by omega⟩
  case round =>
   obtain⟨i,rfl,hi',J,hG⟩:=hrel;have oG:(0:Int)<=i:=by omega
   have QZ:=((Z J).cell (p:=⟨w.heap.size,0,none⟩) jk).trans b0;by_cases eY:i<m
   ·have hlt:(i:Int)<m:=by omega
    obtain⟨blk,off,pr,cc,rfl,hbl,K,EA,_⟩:=(Z OQ) i eY;have hc2:=((Z J).cell (p:=⟨blk,off+i,none⟩) hbl).trans K;by_cases hl:M i=m
    ·have Vf:Hid (j4 W pr m (ab8 i)):=by rw[<- hl];exact EA
     rw[hl]at hc2;clear K EA;go_wp2_with fail;go_loopw [29] (λa wr2=>∃k:Nat,a=.int .i64 k/\k<=m/\Hid (Below W.heap.size W wr2)/\Hid (∀j,j<k->i≠j->ab8 i i<ab8 i j)) (λa _=>m-(intOf a).toNat)
     case atStart=>exact⟨0,rfl,Γ _,J,λj E=>by omega⟩
     case round =>
      clear hc2 QZ J;obtain⟨k,rfl,nB,hb2,hK⟩:=hrel;have hgk:(0:Int)<=k:=by omega
      by_cases vh:k<m
      ·have L3:(k:Int)<m:=by omega
       by_cases hik:k=i
       ·have hK2:=I (show ∀j,j<k+1->i≠j->ab8 i i<ab8 i j from λj E hne=>(Z hK) j (by omega) hne);clear hK;subst hik;have d2:((k:Int)!=(k:Int))=false:=by simp
        go_wp2_with fail;go_quiet (fail);have hb3:=I (iB (Z hb2) nq);clear hb2;go_wp2_with fail;go_roundw;case rel=>exact⟨k+1,by go_num,by omega,hb3,hK2⟩
        case measure=>simp[intOf];omega
       ·have d2:((k:Int)!=(i:Int))=true:=by simp;omega
        obtain⟨bl2,of2,rfl,rk,y1⟩:=(Z Vf) k vh;obtain⟨bl3,of3,e3,_,y2⟩:=(Z Vf) i eY;simp only[τ,av,bI]at e3;obtain⟨rfl,rfl⟩:=e3;have y1':=((Z hb2).cell (p:=⟨bl2,of2+k,none⟩) rk).trans y1;have y2':=((Z hb2).cell (p:=⟨bl2,of2+i,none⟩) rk).trans y2;have HD:Hid (ab8 i k<=ab8 i i\/ab8 i i<ab8 i k):=by show _\/_;omega
        clear y1 y2;rcases Z HD with h5|h5
        ·have d3:decide (ab8 i k<=ab8 i i)=true:=by simpa using h5
         have HR:=I (show ¬GD from λhh=>by
          have h6:=((Z R1).2 hh).2 i eY;have:=h6.2 k vh (by omega);omega)
         generalize ab8 i k=x1 at*;generalize ab8 i i=x2 at*;go_wp2_with fail;go_quiet (fail);have hb3:=I ((Z FW) _ (iB (Z hb2) nq));clear hb2;go_wp2;go_ret;exact⟨⟨false,rfl,by simpa using Z HR⟩,Z hb3⟩
        ·have d3:decide (ab8 i k<=ab8 i i)=false:=by simpa using h5
         have hK2:=I (show ∀j,j<k+1->i≠j->ab8 i i<ab8 i j from λj E hne=>by
          by_cases e:j=k
          ·subst e;exact h5
          ·exact(Z hK) j (by omega) hne)
         have HE:Hid (ab8 i k=ab8 i k):=rfl;clear hK;obtain⟨x1,hx1⟩:∃x,x=ab8 i k:=⟨_,rfl⟩;obtain⟨x2,hx2⟩:∃x,x=ab8 i i:=⟨_,rfl⟩;rw[<- hx1,<- hx2]at d3;rw[<- hx1]at y1';rw[<- hx2]at y2';clear hx1 hx2 h5 HD HE;go_wp2_with fail;go_quiet (fail);have hb3:=I (iB (Z hb2) nq);clear hb2;go_wp2_with fail;go_roundw;case rel=>exact⟨k+1,by go_num,by omega,hb3,hK2⟩
         case measure=>simp[intOf];omega
      ·have hkm:k=m:=by omega
       subst hkm;have kn:¬(k:Int)<k:=by omega
       have hG2:=I (show ∀j,j<i+1->M j=k/\∀k',k'<k->j≠k'->ab8 j j<ab8 j k' from λj E=>by
        by_cases e:j=i
        ·subst e;exact⟨hl,Z hK⟩
        ·exact(Z hG) j (by omega))
       clear hG hK;go_wp2_with fail;go_roundw;case rel=>exact⟨i+1,by go_num,by omega,hb2,hG2⟩
       case measure=>simp[intOf];omega
    ·have hle:=(Z TH) i eY;have d1:(((M i:Nat):Int)!=(m:Int))=true:=by simp;omega
     have HR:=I (show ¬GD from λhh=>hl (((Z R1).2 hh).2 i eY).1);generalize M i=l at*;have hb3:=I ((Z FW) _ (Z J));go_wp2;go_ret;exact⟨⟨false,rfl,by simpa using Z HR⟩,Z hb3⟩
   ·have him:i=m:=by omega
    subst him;have HR:=I ((Z R1).1 ⟨by first|rfl|trivial,Z hG⟩);have hb3:=I ((Z FW) _ (Z J));have kn:¬(i:Int)<i:=by omega
    go_wp2;go_ret;exact⟨⟨true,rfl,by simpa using Z HR⟩,Z hb3⟩
 ·have d1:((m:Int)!=(n:Int))=true:=by simp;omega
  have HR:=I (show ¬GD from λhh=>e1 ((Z R1).2 hh).1);go_enter func194,ntmps194;go_wp2;go_ret;exact⟨⟨false,rfl,by simpa using Z HR⟩,Z F1⟩
def ED (e:Nat->Addr)(i:Int):Value:=if i=0 then .nilIface else bc (e (i-1).toNat)
theorem lM (c:Cf)(p q:Option Addr)(pc qc:Nat)(w:World)(e:Nat->Addr)(he:kO w e)(h:At w c p q)(hwd:¬c.wide):
  Calls prog 142 #[sK c p pc q qc] w λev w'=>∃i:Int,c.is i/\ev=.returned (ED e i)/\Below w.heap.size w w':=by
 have F1:=χ (γ w.heap.size w) (.cells #[.slice p c.n pc,.slice q c.m qc,.int .i64 c.mn,.int .i64 c.lw,.int .i64 c.hi] 127);have BX:=ji w c p q pc qc 127;have H1:=I (λw1 (J:Below w.heap.size w w1)=>QW c p q pc qc w1 (h.b J) hwd);have H2:=I (λw1 (J:Below w.heap.size w w1)=>L4 c p q pc qc w1 (h.b J) hwd);have HE:=I he;have hB:=I (LX c);have I2:Hid (c.j7->∃i:Int,c.is i/\bc (e 1)=ED e i):=λhh=>⟨2,ε ⟨rfl,hh⟩,rfl⟩;have I3:Hid (¬c.j7->¬(c.wJ/\¬c.lL)->∃i:Int,c.is i/\bc (e 2)=ED e i):=λG O=>⟨3,δ (ε ⟨rfl,G,by
  by_cases hs:c.wJ
  ·exact δ (dx λh3=>O ⟨hs,h3⟩)
  ·exact ε hs⟩),rfl⟩
 have I0:Hid (¬c.j7->(c.wJ/\¬c.lL)->∃i:Int,c.is i/\Value.nilIface=ED e i):=λG O=>⟨0,δ (δ ⟨rfl,G,O.1,O.2⟩),rfl⟩;clear h hwd he;generalize Ve c=B at*;generalize c.j7=B2 at*;generalize(c.wJ/\¬c.lL)=ab3 at*;generalize c.is=IS at*;unfold bc at*;unfold sK at*;go_enter func142,ntmps142;go_wp2_with fail;generalize w.alloc (.cells #[.slice p c.n pc,.slice q c.m qc,.int .i64 c.mn,.int .i64 c.lw,.int .i64 c.hi] 127)=W at*;refine((Z H1) _ F1).mono ?_;rintro ev w1⟨rfl,OT⟩;have b1:=bW F1 OT;have Ac:=BX.b OT;obtain⟨y0,y1,y2,y3,y4,_⟩:=Ac;clear BX;have HX:=I ((Z H2) w1 b1);clear H1 H2;cases B with
 |false =>
  have hb2:B2:=dx λhh=>by simpa using(Z hB).2 hh
  have x1:=((Z HE).below b1).bound;clear HX;go_wp2;go_ret;obtain⟨i,G,O⟩:=(Z I2) hb2;exact⟨i,G,by rw[<- O];rfl,b1⟩
 |true =>
  have hb2:¬B2:=(Z hB).1 rfl;have HN:=I hb2;clear hb2 hB;go_wp2_with fail;refine(Z HX).mono ?_;rintro ev w2⟨⟨d,rfl,hd⟩,b2⟩;have b3:=bW b1 b2;have HDD:=I hd;clear hd;cases d with
  |false =>
   have x1:=((Z HE).below b3).shape;go_wp2;go_ret;obtain⟨i,G,O⟩:=(Z I3) (Z HN) (λhh=>by simpa using(Z HDD).2 hh);exact⟨i,G,by rw[<- O];rfl,b3⟩
  |true =>
   go_wp2;go_ret;obtain⟨i,G,O⟩:=(Z I0) (Z HN) ((Z HDD).1 (by first|rfl|trivial));exact⟨i,G,by rw[<- O];rfl,b3⟩
end Dz
namespace Zn
open Fr Bd
theorem info3:(prog.info? 3).map (λi=>(i.zero,i.size,i.bytes))=some (some (.int .i64 0),1,8):=by kernel_rfl
theorem ia {w:World}{b b' e size:Nat}{v:Value}{n:Nat}{xs:List Value}(h:w.ownsRow b e size v n xs)(J:b'<=b):w.ownsRow b' e size v n xs:=by
 refine⟨h.1,?_⟩;rcases h.2 with O|⟨g,cap,cur,G,O,h3⟩
 ·exact ε O
 ·exact δ ⟨g,cap,cur,G,by omega,h3⟩
def dX (L:List Nat):List Value:=L.map λ(k:Nat)=>.int .i64 (k:Int)
def iC (r:Nat->Int)(n:Nat):Nat->List Nat
 |0=>[]
 |f+1=>iC r n f++(List.range n).filter (λk=>decide (r k=(f:Int)))
theorem Cz (r:Nat->Int)(n:Nat):∀f,(iC r n f).length<=n*f
 |0=>by simp[iC]
 |f+1=>by
  have G:=Cz r n f;have O:=List.length_filter_le (λk=>decide (r k=(f:Int))) (List.range n);simp only[List.length_range]at O;simp only[iC,φ];rw[Nat.mul_succ];omega
theorem Mf {r:Nat->Int}{f:Int}{i:Nat}(h:r i=f):(List.range (i+1)).filter (λk=>decide (r k=f))=(List.range i).filter (λk=>decide (r k=f))++[i]:=by
 rw[List.range_succ,cE];simp[h]
theorem Q1 {r:Nat->Int}{f:Int}{i:Nat}(h:r i≠f):(List.range (i+1)).filter (λk=>decide (r k=f))=(List.range i).filter (λk=>decide (r k=f)):=by
 rw[List.range_succ,cE];simp[h]
theorem Mh (c:Cf)(p q:Option Addr)(pc qc:Nat)(x:Nat)(w:World)(h:At w c p q)(hx:x<c.m)(hn:c.n<=20)(hM:c.n<=c.M x):
  Calls prog 147 #[sK c p pc q qc,.int .i64 x] w λev w'=>∃v,ev=.returned v/\w'.ownsRow w.heap.size 3 1 v (iC (c.ab8 x) c.n 1001).length (dX (iC (c.ab8 x) c.n 1001))/\(iC (c.ab8 x) c.n 1001=[]->v=.slice none 0 0)/\Below w.heap.size w w':=by
 unfold sK;have BX:=ji w c p q pc qc 122;have F1:=χ (γ w.heap.size w) (.cells #[.slice p c.n pc,.slice q c.m qc,.int .i64 c.mn,.int .i64 c.lw,.int .i64 c.hi] 122);have A1:=h.rs.b F1;clear h;obtain⟨n,P,m,M,ab8,mn,lw,hi⟩:=c;simp only at*;obtain⟨blk,off,pr,cc,rfl,hbl,K,hrow,_⟩:=A1 x hx;generalize ab8 x=r at*;generalize M x=l at*;obtain⟨i0,eO,hz0,hz1,hz2⟩:=aY info3;have HI:=I eO;have HZ:=I hz0;have eI:=I hz1;have eJ:=I hz2;clear eO hz0 hz1 hz2 A1;have oG:(0:Int)<=x:=by omega
 have hlt:(x:Int)<m:=by omega
 obtain⟨L,hL⟩:∃L,L=iC r n 1001:=⟨_,rfl⟩;rw[<- hL];have HL:=I hL;clear hL;go_enter func147,ntmps147;go_wp2_with fail;generalize w.alloc (.cells #[.slice p n pc,.slice (some ⟨blk,off,none⟩) m qc,.int .i64 mn,.int .i64 lw,.int .i64 hi] 122)=W at*;have b0:=BX.c0;have b1:=BX.c1;have bl:=BX.lt;simp only at b0 b1;have dR:=F1.size;have KB:=I (λwr (J:Below W.heap.size W wr)=>(⟨(J.cell (p:=⟨w.heap.size,0,none⟩) bl).trans b0,(J.cell (p:=⟨w.heap.size,1,none⟩) bl).trans b1,(J.cell (p:=⟨blk,off+x,none⟩) hbl).trans K⟩:wr.cell? ⟨w.heap.size,0,none⟩=some (.slice p n pc)/\wr.cell? ⟨w.heap.size,1,none⟩=some (.slice (some ⟨blk,off,none⟩) m qc)/\wr.cell? ⟨blk,off+x,none⟩=some (.slice pr l cc)));have hrow:=I hrow;have F1:=I F1;clear BX b0 b1 K;go_loopw [5,6] (λu a wr=>∃(f:Nat),a=.int .i64 f/\f<=1001/\wr.ownsRow W.heap.size 3 1 u (iC r n f).length (dX (iC r n f))/\Hid (iC r n f=[]->u=.slice none 0 0)/\Below W.heap.size W wr) (λ_ a _=>1001-(intOf a).toNat)
 case atStart=>exact⟨0,rfl,by omega,Ξ _ _ _ _,λ_=>rfl,γ _ _⟩
 case round =>
  obtain⟨f,rfl,hf',hown,hnil,J⟩:=hrel;have aby:(0:Int)<=f:=by omega
  by_cases eY:f<1001
  ·have hle:(f:Int)<=1000:=by omega
   have hlen:=Cz r n f;go_wp2_with fail;go_loopw [5,7] (λu a wr=>∃(i:Nat) (L1:List Nat),a=.int .i64 i/\i<=n/\Hid (L1=iC r n f++(List.range i).filter (λk=>decide (r k=(f:Int))))/\wr.ownsRow W.heap.size 3 1 u L1.length (dX L1)/\Hid (L1=[]->u=.slice none 0 0)/\Below W.heap.size W wr) (λ_ a _=>n-(intOf a).toNat)
   case atStart=>exact⟨0,_,rfl,by omega,(by simp[Hid]),hown,hnil,J⟩
   case round =>
    clear hown hnil J;obtain⟨i,L1,rfl,hi',Q2,hown,hnil,J⟩:=hrel;have abz:(0:Int)<=i:=by omega
    obtain⟨k0,k1,kc⟩:=(Z KB) _ J;by_cases nN:i<n
    ·have aam:(i:Int)<n:=by omega
     have abA:(i:Int)<l:=by omega
     obtain⟨Ho,nS,rfl,rk,QN⟩:=((Z hrow).b J) i (by omega);have KG:L1.length<=20*1001+20:=by
      rw[Z Q2,φ];have O:=List.length_filter_le (λk=>decide (r k=(f:Int))) (List.range i);simp only[List.length_range]at O;have:n*f<=20*1001:=gu hn (by omega);omega
     by_cases he:r i=f
     ·have e1:(r i==(f:Int))=true:=by simp[he]
      have hL2:=I (show L1++[i]=iC r n f++(List.range (i+1)).filter (λk=>decide (r k=(f:Int))) by rw[Mf he,Z Q2];simp);clear Q2 he;generalize r i=y at*;have hsz:=J.size;go_wp2_with (at_builtin;refine Ω _ rfl _ _ 38 rfl W.heap.size 3 i0 (.int .i64 0) 1 8 underlying38 (Z HI) (Z HZ) (Z eI) (Z eJ) rfl (by decide) _ _ _ rfl (hown.alloc _) ⟨wr.heap.size,0,none⟩ 1 1 [.int .i64 i] rfl rfl (by intro j u E;match j,E with|0,E=>simp at E;subst E;simp[Addr.add]) (by intro u hu;simp at hu;subst hu;rfl) (by unfold maxLen;omega) (by omega) (by simp;omega) ?_;intro v' w3 hown' Hs hnil3);have b3:Below W.heap.size W w3:=(χ J _).grown Hs (by simp;omega) (bL hown);have Vh:w3.ownsRow W.heap.size 3 1 v' (L1++[i]).length (dX (L1++[i])):=by simpa[dX]using hown'
      clear hown' Hs hnil3 hown hnil;go_wp2;go_roundw;case rel=>exact⟨i+1,L1++[i],by go_num,by omega,hL2,Vh,(λh=>by simp at h),b3⟩
      case measure=>simp[intOf];omega
     ·have e1:(r i==(f:Int))=false:=by simp[he]
      have hL2:=I (show L1=iC r n f++(List.range (i+1)).filter (λk=>decide (r k=(f:Int))) by rw[Q1 he,Z Q2]);clear Q2 he;generalize r i=y at*;go_wp2;go_roundw;case rel=>exact⟨i+1,L1,by go_num,by omega,hL2,hown,hnil,J⟩
      case measure=>simp[intOf];omega
    ·have aam:¬(i:Int)<n:=by omega
     obtain rfl:i=n:=by omega
     have hL2:L1=iC r i (f+1):=Z Q2;subst hL2;clear Q2;have hown:=I hown;have hnil:=I (Z hnil);go_wp2;go_roundw;case rel=>exact⟨f+1,by go_num,by omega,Z hown,hnil,J⟩
     case measure=>simp[intOf];omega
  ·obtain rfl:f=1001:=by omega
   have hle:¬((1001:Nat):Int)<=1000:=by omega
   have F2:=bW (Z F1) J;rw[<- Z HL]at hown hnil;go_wp2;go_ret;exact⟨_,rfl,ia hown dR,Z hnil,F2⟩
end Zn
end Go.Proofs.YtcbmfakjfoggaaaGreatDoor
