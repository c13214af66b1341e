/- H18 -/
import Derived.Test.YtcbmfakjfoggaaaGreatDoorA0
import Derived.Test.YtcbmfakjfoggaaaGreatDoorH15
set_option maxHeartbeats 0
set_option maxRecDepth 100000
namespace Go.Proofs.YtcbmfakjfoggaaaGreatDoor
open Go.Maps _root_.Go.Proofs.Tryz Go.RowKit
namespace Sb
open Fr Bd Zn Dz
variable {w w':World}{m t:Nat}{s:Sl}
theorem vz (c z:Nat)(mn lw hi:Int)(k:Nat)(nb fm F:Nat->Nat)(V:Nat->Nd)(fr:Nat->List Nat)(x:Int)(w:World)(e:Nat->Addr)(he:kO w e)(h:DZ w z mn lw hi k nb fm F V fr)(K:w.cell? ⟨c,0,none⟩=some (ptr z)):
  Calls prog 73 #[ptr c,.int .i64 x] w λev w'=>ev=.returned (.bool (decide (0<=x/\x<k)))/\Below w.heap.size w w':=by
 by_cases hx:0<=x/\x<k
 ·obtain⟨x',rfl⟩:=bw hx.1;have H:=I (Hy z mn lw hi k nb fm F V fr x' w h (by omega));rw[show decide (0<=(x':Int)/\(x':Int)<k)=true by simp;omega];generalize fS (V x').aca=v at*;clear h he hx;unfold ptr at*;go_enter func73,ntmps73;go_wp2_with fail;refine(Z H).mono ?_;rintro ev w'⟨rfl,J⟩;go_wp2_with fail;go_ret;exact⟨rfl,J⟩
 ·have H:=I (EF z mn lw hi k nb fm F V fr x w e he h hx);rw[show decide (0<=x/\x<k)=false by simpa using hx];clear h he hx;unfold ptr bc at*;go_enter func73,ntmps73;go_wp2_with fail;refine(Z H).mono ?_;rintro ev w'⟨rfl,J⟩;go_wp2_with fail;go_ret;exact⟨rfl,J⟩
def jy (bs:List Nat):Option Nat->Value
 |none=>.pointer none
 |some j=>ptr (bs.getD j 0)
theorem DC.Pb {N0:Nat}{c z:Nat}{ly:Ly}{sz:Int}{bs:List Nat}{Q:List Sl}(h:DC N0 w c z ly sz m bs Q):1<=m/\m<=64:=by
 obtain⟨G,O,h3⟩:=h.mm;have h4:(64:Int)/sz<=64:=Int.ediv_le_self _ (by omega);have h5:(1:Int)<=64/sz:=dT (by omega) (by omega);omega
theorem iU {x:Nat}(h:x<2^m)(hm:m<=64):x<18446744073709551616:=ι h (σ (gz (by omega) hm) (by decide))
theorem MD (N0:Nat)(c z:Nat)(ly:Ly)(sz:Int)(m:Nat)(bs:List Nat)(Q:List Sl)(x:Nat)(w:World)(h:DC N0 w c z ly sz m bs Q)(hn:Q.length<=10000):
  Calls prog 170 #[ptr c,.int .i64 x] w λev w'=>ev=.returned (jy bs (dK m x Q Q.length).1)/\w'=w:=by
 obtain⟨p,d,e2,o2⟩:=h.c2;have nO:=h.Pb;have f_:=h.mm.2.2;have xJ:=I (CK c sz w h.c1 h.mm.1 h.mm.2.1);rw[<- f_]at xJ;have HR:=I (λi (hi:i<Q.length)=>h.slab hi);have HW:=I (λ(hi:0<Q.length)=>h.row hi);rw[h.len]at e2;clear h o2 f_;unfold ptr at*;go_enter func170,ntmps170;go_wp2_with fail;go_loopw [15,5,6] (λs s5 s6 wr=>∃i:Nat,s=.int .i64 i/\i<=Q.length/\wr=w/\s5=jy bs (dK m x Q i).1/\s6=.int .i64 (dK m x Q i).2) (λs _ _ _=>Q.length-(intOf s).toNat)
 case atStart=>exact⟨0,rfl,Γ _,rfl,rfl,rfl⟩
 case round =>
  obtain⟨i,rfl,hi,rfl,rfl,rfl⟩:=hrel;by_cases ja:i<Q.length
  ·obtain⟨b,s,eb,es,hS,eH⟩:=(Z HR) i ja;obtain⟨g,d',eg,_,hg,_,hrow⟩:=(Z HW) (by omega);rw[e2]at eg;simp only[τ,ψ,aZ]at eg;obtain⟨rfl,rfl⟩:=eg;have rb:=hrow i b eb;have c0:=hS.c0;have c3:=hS.c3;have Rb:=MC s.bm wr (iU eH.2.2.1 nO.2);rw[Af eH.2.2.1 64 nO.2]at Rb;have jP:dK m x Q (i+1)=if s.V=x/\pop s.bm m<m/\(dK m x Q i).2<(pop s.bm m:Int)then(some i,(pop s.bm m:Int))else dK m x Q i:=by
    rw[dK,getD_at es]
   have zu:=Ag m x Q i;have Gr:jy bs (some i)=.pointer (some ⟨b,0,none⟩):=by simp only[jy,getD_at eb];rfl
   have hpl:=fu s.bm m;have HX:=I jP;have Rb:=I Rb;clear jP hrow hS eH eb es;generalize s.bm=bm at*;generalize pop bm m=n1 at*;generalize hB:dK m x Q i=B1 at*;obtain⟨o1,v1⟩:=B1;simp only at zu;generalize Iz:jy bs o1=V1 at*;have eO:(0:Int)<=i:=by omega
   have Am:(i:Int)<Q.length:=by omega
   unfold ptr at*;have HBI:=I Gr;have sw:=I Iz;have HB:=I hB;clear hB Iz Gr;by_cases a1:s.V=x
   ·have d1:((s.V:Int)==(x:Int))=true:=by simp;omega
    by_cases a2:n1<m
    ·have d2:decide ((n1:Int)<(m:Int))=true:=by simp;omega
     by_cases a3:v1<(n1:Int)
     ·have d3:decide ((n1:Int)>v1)=true:=by simp;omega
      have HE:Hid (dK m x Q (i+1)=(some i,(n1:Int))):=by rw[Z HX,af ⟨a1,a2,a3⟩];exact rfl
      clear a1;go_wp2_with (first|(go_at_call 218;refine(Z Rb).mono ?_;rintro ev w3⟨rfl,rfl⟩)|(go_at_call 219;refine(Z xJ).mono ?_;rintro ev w3⟨rfl,rfl⟩));go_roundw;case rel=>exact⟨i+1,by go_num,by omega,by first|trivial|rfl,by rw[Z HE];exact(Z HBI).symm,by rw[Z HE]⟩
      case measure=>simp[intOf];omega
     ·have d3:decide ((n1:Int)>v1)=false:=by simp;omega
      have HE:Hid (dK m x Q (i+1)=(o1,v1)):=by rw[Z HX,ai (λh=>a3 h.2.2)];exact rfl
      clear a1;go_wp2_with (first|(go_at_call 218;refine(Z Rb).mono ?_;rintro ev w3⟨rfl,rfl⟩)|(go_at_call 219;refine(Z xJ).mono ?_;rintro ev w3⟨rfl,rfl⟩));go_roundw;case rel=>exact⟨i+1,by go_num,by omega,by first|trivial|rfl,by rw[Z HE];exact(Z sw).symm,by rw[Z HE]⟩
      case measure=>simp[intOf];omega
    ·have d2:decide ((n1:Int)<(m:Int))=false:=by simp;omega
     have HE:Hid (dK m x Q (i+1)=(o1,v1)):=by rw[Z HX,ai (λh=>a2 h.2.1)];exact rfl
     clear a1;go_wp2_with (first|(go_at_call 218;refine(Z Rb).mono ?_;rintro ev w3⟨rfl,rfl⟩)|(go_at_call 219;refine(Z xJ).mono ?_;rintro ev w3⟨rfl,rfl⟩));go_roundw;case rel=>exact⟨i+1,by go_num,by omega,by first|trivial|rfl,by rw[Z HE];exact(Z sw).symm,by rw[Z HE]⟩
     case measure=>simp[intOf];omega
   ·have d1:((s.V:Int)==(x:Int))=false:=by simp;omega
    have HE:Hid (dK m x Q (i+1)=(o1,v1)):=by rw[Z HX,ai (λh=>a1 h.1)];exact rfl
    clear a1;go_wp2_with (first|(go_at_call 218;refine(Z Rb).mono ?_;rintro ev w3⟨rfl,rfl⟩)|(go_at_call 219;refine(Z xJ).mono ?_;rintro ev w3⟨rfl,rfl⟩));go_roundw;case rel=>exact⟨i+1,by go_num,by omega,by first|trivial|rfl,by rw[Z HE];exact(Z sw).symm,by rw[Z HE]⟩
    case measure=>simp[intOf];omega
  ·obtain rfl:i=Q.length:=by omega
   go_wp2;go_ret;exact⟨rfl,rfl⟩
structure Jp (w:World)(b t m:Nat)(s:Sl):Prop where
 c0:w.cell? ⟨b,0,none⟩=some (.int .i64 s.V)
 c1:w.cell? ⟨b,1,none⟩=some (.int .i64 s.at_)
 c2:w.cell? ⟨b,2,none⟩=some (.int .i64 0)
 c3:w.cell? ⟨b,3,none⟩=some (.slice (some ⟨t,0,none⟩) m m)
 row:∀j,j<m->w.cell? ⟨t,j,none⟩=some (.bool (s.bm.testBit j))
 tg:Tag w b 305
 tt:Tag w t 4
 fz:∀o,w.frozen? ⟨t,o,none⟩=false
theorem Jp.same {b:Nat}(h:Jp w b t m s)(J:w'.heap[b]?=w.heap[b]?)(ht:w'.heap[t]?=w.heap[t]?):Jp w' b t m s :=
 ⟨(η (w:=w) (a:=⟨b,0,none⟩) J).trans h.c0,(η (w:=w) (a:=⟨b,1,none⟩) J).trans h.c1,(η (w:=w) (a:=⟨b,2,none⟩) J).trans h.c2,(η (w:=w) (a:=⟨b,3,none⟩) J).trans h.c3,λj E=>(η (w:=w) (a:=⟨t,j,none⟩) ht).trans (h.row j E),h.tg.blk J,h.tt.blk ht,λo=>(π (w:=w) (a:=⟨t,o,none⟩) ht).trans (h.fz o)⟩
theorem Jp.b {b:Nat}(h:Jp w b t m s)(J:Below w.heap.size w w'):Jp w' b t m s:=h.same (J.block b h.tg.lt) (J.block t h.tt.lt)
structure RC (N0:Nat)(w:World)(c z:Nat)(sz:Int)(m:Nat)(bs ts:List Nat)(Q:List Sl):Prop where
 c0:w.cell? ⟨c,0,none⟩=some (ptr z)
 c1:w.cell? ⟨c,1,none⟩=some (.int .i64 sz)
 c2:∃p d,w.cell? ⟨c,2,none⟩=some (.slice p bs.length d)/\w.ownsRow N0 302 1 (.slice p bs.length d) bs.length (dS bs)
 tg:Tag w c 140
 ge:N0<=c
 len:bs.length=Q.length
 lt:ts.length=Q.length
 tn:ts.Nodup
 gt:∀t∈ts,N0<=t
 sl:∀(i b t:Nat) (s:Sl),bs[i]?=some b->ts[i]?=some t->Q[i]?=some s->Jp w b t m s
 cf:∀o,w.frozen? ⟨c,o,none⟩=false
section
variable {N0:Nat}{w w':World}{c z:Nat}{sz:Int}{m:Nat}{bs ts:List Nat}{Q:List Sl}
theorem RC.same (h:RC N0 w c z sz m bs ts Q)(hs:eh [140,302,305,4] w w'):RC N0 w' c z sz m bs ts Q:=by
 obtain⟨p,d,e2,o2⟩:=h.c2;have K:=λj=>bN hs (by simp) h.tg j;exact⟨(K 0).trans h.c0,(K 1).trans h.c1,⟨p,d,(K 2).trans e2,bK o2 hs (by simp)⟩,cY hs (by simp) h.tg,h.ge,h.len,h.lt,h.tn,h.gt,λi b t s G O h3=>(h.sl i b t s G O h3).same (hs b 305 (by simp) (h.sl i b t s G O h3).tg) (hs t 4 (by simp) (h.sl i b t s G O h3).tt),λo=>(π (w:=w) (a:=⟨c,o,none⟩) (hs c 140 (by simp) h.tg)).trans (h.cf o)⟩
theorem RC.b (h:RC N0 w c z sz m bs ts Q)(J:Below w.heap.size w w'):RC N0 w' c z sz m bs ts Q:=h.same (eo J)
theorem RC.slab (h:RC N0 w c z sz m bs ts Q){i:Nat}(hi:i<Q.length):∃b t s,bs[i]?=some b/\ts[i]?=some t/\Q[i]?=some s/\Jp w b t m s:=by
 have J:i<bs.length:=by rw[h.len];exact hi
 have ht:i<ts.length:=by rw[h.lt];exact hi
 exact⟨_,_,_,ξ J,ξ ht,ξ hi,h.sl i _ _ _ (ξ J) (ξ ht) (ξ hi)⟩
theorem RC.row (h:RC N0 w c z sz m bs ts Q)(hn:0<Q.length):∃g d,w.cell? ⟨c,2,none⟩=some (.slice (some ⟨g,0,none⟩) Q.length d)/\g<w.heap.size/\∀i b,bs[i]?=some b->w.cell? ⟨g,i,none⟩=some (ptr b):=by
 obtain⟨p,d,e2,o2⟩:=h.c2;rw[h.len]at e2 o2;obtain⟨g,cap,hv,hg,hl⟩:=o2.form hn;simp only[ψ,aZ]at hv;obtain⟨rfl,rfl⟩:=hv;refine⟨g,d,e2,hl,λi b J=>?_⟩;have hi:i<bs.length:=(ν.mp J).1;exact(o2.cellAt i (by rw[h.len]at hi;omega)).trans (nZ J)
end
theorem ux (x:Nat):∀j,pop x j<=j
 |0=>by simp[pop]
 |j+1=>by have:=ux x j;rw[pop];split<;>omega
theorem NB (b t m:Nat)(s:Sl)(w:World)(h:Jp w b t m s)(hm:m<=64):
  Calls prog 175 #[ptr b] w λev w'=>ev=.returned (.int .i64 (pop s.bm m))/\Below w.heap.size w w':=by
 have e3:=h.c3;have hbl:=h.tg.lt;have H:=I h;clear h;unfold ptr;go_enter func175,ntmps175;go_wp2_with fail;go_loopw [3,4] (λn a wr=>∃j:Nat,n=.int .i64 (pop s.bm j)/\a=.int .i64 j/\j<=m/\Hid (Below w.heap.size w wr)) (λ_ a _=>m-(intOf a).toNat)
 case atStart=>exact⟨0,rfl,rfl,Γ _,γ _ _⟩
 case round =>
  obtain⟨j,rfl,rfl,E,J⟩:=hrel;have oG:(0:Int)<=j:=by omega
  have e4:=((Z J).cell (p:=⟨b,3,none⟩) hbl).trans e3;have nO:=ux s.bm j;by_cases pS:j<m
  ·have hlt:(j:Int)<m:=by omega
   have cj:=((Z H).b (Z J)).row j pS;have WR:=I (show pop s.bm (j+1)=if s.bm.testBit j then pop s.bm j+1 else pop s.bm j by rw[pop];split<;>rfl);generalize pop s.bm j=n at*;have AX:n<=64:=by omega
   cases hx:s.bm.testBit j
   ·rw[hx]at cj WR;clear nO;go_wp2;go_roundw;case rel=>exact⟨j+1,by rw[Z WR];rfl,by go_num,by omega,J⟩
    case measure=>simp[intOf];omega
   ·rw[hx]at cj WR;clear nO;go_wp2;go_roundw;case rel=>exact⟨j+1,by rw[Z WR];simp,by go_num,by omega,J⟩
    case measure=>simp[intOf];omega
  ·have hlt:¬(j:Int)<m:=by omega
   obtain rfl:j=m:=by omega
   clear nO;go_wp2;go_ret;exact⟨rfl,Z J⟩
end Sb
end Go.Proofs.YtcbmfakjfoggaaaGreatDoor
