/- W1 -/
import Derived.Test.YtcbmfakjfoggaaaGreatDoorA0
import Derived.Test.YtcbmfakjfoggaaaGreatDoorJ4
import Derived.Test.YtcbmfakjfoggaaaGreatDoorH29
import Derived.Test.YtcbmfakjfoggaaaGreatDoorH30
import Derived.Test.YtcbmfakjfoggaaaGreatDoorH33
import Derived.Test.YtcbmfakjfoggaaaGreatDoorJ1
import Derived.Test.YtcbmfakjfoggaaaGreatDoorH35
import Derived.Test.YtcbmfakjfoggaaaGreatDoorJ2
import Derived.Test.YtcbmfakjfoggaaaGreatDoorH12
set_option maxHeartbeats 0
set_option maxRecDepth 100000
namespace Go.Proofs.YtcbmfakjfoggaaaGreatDoor
open _root_.Go.Proofs.Tryz Go.RowKit Go.Maps
namespace Pl
open Fr Bd Zn Dz Sb Mg
structure gy where
 id:Nat
 o:Bl
 l:List UInt8
 n:Nat
structure gZ (w:World)(b:Nat)(x:gy):Prop where
 c0:w.cell? ⟨b,0,none⟩=some (.int .i64 x.id)
 c1:w.cell? ⟨b,1,none⟩=some (.int .i64 x.o.1)
 c2:w.cell? ⟨b,2,none⟩=some (.int .i64 x.o.2)
 c3:w.cell? ⟨b,3,none⟩=some (.string ⟨x.l.toArray⟩)
 c4:w.cell? ⟨b,4,none⟩=some (.int .i64 x.n)
 tg:Tag w b 93
 fz:∀o,w.frozen? ⟨b,o,none⟩=false
theorem gZ.keep {w w':World}{b:Nat}{x:gy}(h:gZ w b x)(J:w'.heap[b]?=w.heap[b]?):gZ w' b x:=by
 have K:=λj=>η (w:=w) (a:=⟨b,j,none⟩) J;exact⟨(K 0).trans h.c0,(K 1).trans h.c1,(K 2).trans h.c2,(K 3).trans h.c3,(K 4).trans h.c4,h.tg.blk J,λo=>(π (w:=w) (a:=⟨b,o,none⟩) J).trans (h.fz o)⟩
structure df where
 sz:Nat
 last:Nat
 v:Value
 bs:List Nat
 ab2:List gy
def mK (b:Nat):Value:=.pointer (some ⟨b,0,none⟩)
structure RT (B:Nat)(w:World)(ms aK:Nat)(R:df):Prop where
 c0:w.cell? ⟨ms,0,none⟩=some (.pointer (some ⟨aK,0,none⟩))
 c1:w.cell? ⟨ms,1,none⟩=some (.int .i64 R.sz)
 c2:w.cell? ⟨ms,2,none⟩=some R.v
 c3:w.cell? ⟨ms,3,none⟩=some (.int .i64 R.last)
 tg:Tag w ms 90
 fz:∀o,w.frozen? ⟨ms,o,none⟩=false
 row:w.ownsRow B 91 1 R.v R.bs.length (R.bs.map mK)
 len:R.ab2.length=R.bs.length
 k:∀(i:Nat) b x,R.bs[i]?=some b->R.ab2[i]?=some x->gZ w b x/\B<=b
 V:R.bs.Nodup
 ge:B<=ms
 oP:1<=R.sz/\R.sz<=64
 vV:R.last<=1000000
 cnt:R.bs.length<=1000000
 so:R.ab2.Pairwise (λx y=>x.id<y.id)
 le:∀x∈R.ab2,1<=x.id/\x.id<=R.last/\x.l.length=R.sz/\1<=x.n/\x.n<=16
def RO (ms:Nat)(R:df)(j:Nat):Prop:=j=ms\/OB R.v j\/j∈R.bs
section
variable {B:Nat}{w w':World}{ms aK:Nat}{R:df}{t:Int}
theorem RT.keep (h:RT B w ms aK R) (J:∀j,RO ms R j->w'.heap[j]?=w.heap[j]?):RT B w' ms aK R:=by
 have h0:=J ms (ε rfl)
 have K:=λj=>η (w:=w) (a:=⟨ms,j,none⟩) h0
 exact{h with
  c0:=(K 0).trans h.c0,c1:=(K 1).trans h.c1,c2:=(K 2).trans h.c2,c3:=(K 3).trans h.c3
  tg:=h.tg.blk h0
  fz:=λo=>(π (w:=w) (a:=⟨ms,o,none⟩) h0).trans (h.fz o)
  row:=aI h.row (λg hg=>J g (δ (ε hg)))
  k:=λi b x e1 e2=>⟨(h.k i b x e1 e2).1.keep (J b (δ (δ (aH e1)))),(h.k i b x e1 e2).2⟩}
theorem RT.at (h:RT B w ms aK R){i:Nat}(hi:i<R.bs.length):∃b x,R.bs[i]?=some b/\R.ab2[i]?=some x/\gZ w b x/\B<=b:=by
 have G:R.bs[i]?=some R.bs[i]:=ξ hi;have hE:i<R.ab2.length:=by rw[h.len];exact hi
 have O:R.ab2[i]?=some R.ab2[i]:=ξ hE;exact⟨_,_,G,O,h.k i _ _ G O⟩
theorem RT.lt (h:RT B w ms aK R){j:Nat}(E:RO ms R j):j<w.heap.size/\B<=j:=by
 rcases E with rfl|E|E
 ·exact⟨h.tg.lt,h.ge⟩
 ·exact⟨(ay h.row E).1.lt,(ay h.row E).2⟩
 ·obtain⟨i,hi⟩:=List.mem_iff_getElem?.1 E;obtain⟨b,x,e1,e2,e3,e4⟩:=h.at (ν.1 hi).1;rw[hi]at e1;obtain rfl:=ah e1;exact⟨e3.tg.lt,e4⟩
theorem RT.b (h:RT B w ms aK R)(J:Below w.heap.size w w'):RT B w' ms aK R:=h.keep λj E=>J.block j (h.lt E).1
def mR (R:df)(t:Int):Option Nat:=(R.ab2.findIdx? (λx=>(x.id:Int)==t)).bind λi=>R.bs[i]?
theorem wP (h:∀x∈R.ab2,(x.id:Int)≠t):mR R t=none:=by
 unfold mR;rw[List.findIdx?_eq_none_iff.2 (λx hx=>by simpa using h x hx)];rfl
theorem oK {i b:Nat}{x:gy}{t:Int}(G:R.bs[i]?=some b)(O:R.ab2[i]?=some x)(h3:(x.id:Int)=t)(h4:∀j y,j<i->R.ab2[j]?=some y->(y.id:Int)≠t):mR R t=some b:=by
 unfold mR;have hi:=(ν.1 O).1;have hx:R.ab2[i]=x:=(ν.1 O).2;have:R.ab2.findIdx? (λx=>(x.id:Int)==t)=some i:=by
  rw[List.findIdx?_eq_some_iff_getElem];refine⟨hi,by rw[hx];simpa using h3,λj E=>?_⟩;have:=h4 j R.ab2[j] E (ξ _);simpa using this
 rw[this];exact G
theorem l6 (h:RT B w ms aK R)(t:Int):Calls prog 112 #[.pointer (some ⟨ms,0,none⟩),.int .i64 t] w λev w'=>ev=.returned (.pointer ((mR R t).map λb=>⟨b,0,none⟩))/\w'=w:=by
 have HH:=I h;have c2:=h.c2;obtain⟨p,cp,hv⟩:=aX h.row;rw[hv]at c2;have hrow:=h.row;rw[hv]at hrow;have Yb:=I hrow;generalize hn:R.bs.length=n at*;have HN:=I hn;clear h hv hrow hn;go_enter func112,ntmps112;go_wp2_with fail;go_loopw [5] (λs wr=>∃i:Nat,s=.int .i64 i/\i<=n/\w=wr/\Hid (∀j y,j<i->R.ab2[j]?=some y->(y.id:Int)≠t)) (λs _=>n-(intOf s).toNat)
 case atStart=>exact⟨0,rfl,Γ _,rfl,λj y E=>by omega⟩
 case round =>
  obtain⟨i,rfl,hi,rfl,HB⟩:=hrel;have eO:(0:Int)<=i:=by omega
  have hwi:IntKind.i64.wrap ((i:Int)+1)=(i:Int)+1:=aB _ (by have:=(Z HH).cnt;have:=Z HN;omega);by_cases eY:i<n
  ·have ja:(i:Int)<n:=by omega
   obtain⟨b,x,e1,e2,e3,e4⟩:=(Z HH).at (i:=i) (by rw[Z HN];exact eY);obtain⟨g,rfl,_⟩:∃g,p=some ⟨g,0,none⟩/\True:=by
    obtain⟨g,c',hg,_⟩:=(Z Yb).form (by omega);simp only[ψ]at hg;exact⟨g,hg.1,trivial⟩
   have x0:=(Z Yb).cellAt i (by simp;omega);rw[dy,e1]at x0;simp only[Option.map_some,mK]at x0;have y0:=e3.c0;have Yr:=I e1;have Z1:=I e2;clear e1 e2 e3 e4;by_cases ht:(x.id:Int)=t
   ·have d1:((x.id:Int)==t)=true:=by simpa using ht
    have d2:decide ((x.id:Int)=t)=true:=by simpa using ht
    have HF:=I (oK (Z Yr) (Z Z1) ht (Z HB));go_wp2_with fail;go_ret;rw[Z HF];exact⟨rfl,rfl⟩
   ·have d1:((x.id:Int)==t)=false:=by simpa using ht
    have d2:decide ((x.id:Int)=t)=false:=by simpa using ht
    have kg:Hid (∀j y,j<i+1->R.ab2[j]?=some y->(y.id:Int)≠t):=λj y E hy=>by
     by_cases hji:j=i
     ·subst hji;rw[Z Z1]at hy;rw[<- ah hy];exact ht
     ·exact(Z HB) j y (by omega) hy
    clear HB ht;go_wp2_with fail;go_roundw;case rel=>exact⟨i+1,by go_num,by omega,trivial,kg⟩
    case measure=>simp[intOf];omega
  ·obtain rfl:i=n:=by omega
   have kn:¬(i:Int)<i:=by omega
   have HF:=I (wP (R:=R) (t:=t) (λx hx=>by
    obtain⟨j,E⟩:=List.mem_iff_getElem?.1 hx;exact(Z HB) j x (by have:=(ν.1 E).1;have:=(Z HH).len;have:=Z HN;omega) E))
   go_wp2_with fail;go_ret;rw[Z HF];exact⟨rfl,rfl⟩
def lY (R:df)(t a n:Int):Int:=if mR R t=none then 4 else if a<0\/n<0\/R.sz<a\/R.sz<n\/R.sz<a+n then 2 else 0
theorem l7 (h:RT B w ms aK R)(t a n:Int):Calls prog 111 #[.pointer (some ⟨ms,0,none⟩),.int .i64 t,.int .i64 a,.int .i64 n] w λev w'=>ev=.returned (.int .i64 (lY R t a n))/\w'=w:=by
 have HF:=I (l6 h t);have c1:=h.c1;have hz:=h.oP;generalize hzz:R.sz=z at*;clear h;cases hf:mR R t with
 |none =>
  rw[show lY R t a n=4 from by unfold lY;rw[af hf]];rw[hf]at HF;simp only[Option.map_none]at HF;clear hzz hf;go_enter func111,ntmps111;go_wp2_with fail;refine(Z HF).mono ?_;rintro ev w1⟨rfl,rfl⟩;clear HF;go_wp2;go_ret;exact⟨rfl,rfl⟩
 |some b =>
  have Gl:¬mR R t=none:=by rw[hf];simp
  rw[hf]at HF;simp only[Option.map_some]at HF;by_cases q0:a<0
  ·have d0:decide (a<0)=true:=by simp;omega
   rw[show lY R t a n=2 from by unfold lY;rw[ai Gl,af (by rw[hzz];omega)]];clear Gl hzz;go_enter func111,ntmps111;go_wp2_with fail;refine(Z HF).mono ?_;rintro ev w1⟨rfl,rfl⟩;clear HF;go_wp2;go_ret;exact⟨rfl,rfl⟩
  have d0:decide (a<0)=false:=by simp;omega
  by_cases q1:n<0
  ·have d1:decide (n<0)=true:=by simp;omega
   rw[show lY R t a n=2 from by unfold lY;rw[ai Gl,af (by rw[hzz];omega)]];clear Gl hzz;go_enter func111,ntmps111;go_wp2_with fail;refine(Z HF).mono ?_;rintro ev w1⟨rfl,rfl⟩;clear HF;go_wp2;go_ret;exact⟨rfl,rfl⟩
  have d1:decide (n<0)=false:=by simp;omega
  by_cases q2:(z:Int)<a
  ·have d2:decide ((z:Int)<a)=true:=by simp;omega
   have e2:decide (a>(z:Int))=true:=by simp;omega
   rw[show lY R t a n=2 from by unfold lY;rw[ai Gl,af (by rw[hzz];omega)]];clear Gl hzz;go_enter func111,ntmps111;go_wp2_with fail;refine(Z HF).mono ?_;rintro ev w1⟨rfl,rfl⟩;clear HF;go_wp2;go_ret;exact⟨rfl,rfl⟩
  have d2:decide ((z:Int)<a)=false:=by simp;omega
  have e2:decide (a>(z:Int))=false:=by simp;omega
  by_cases q3:(z:Int)<n
  ·have d3:decide ((z:Int)<n)=true:=by simp;omega
   have e3:decide (n>(z:Int))=true:=by simp;omega
   rw[show lY R t a n=2 from by unfold lY;rw[ai Gl,af (by rw[hzz];omega)]];clear Gl hzz;go_enter func111,ntmps111;go_wp2_with fail;refine(Z HF).mono ?_;rintro ev w1⟨rfl,rfl⟩;clear HF;go_wp2;go_ret;exact⟨rfl,rfl⟩
  have d3:decide ((z:Int)<n)=false:=by simp;omega
  have e3:decide (n>(z:Int))=false:=by simp;omega
  have hw:IntKind.i64.wrap (a+n)=a+n:=aB _ (by omega);by_cases q4:(z:Int)<a+n
  ·have d4:decide ((z:Int)<a+n)=true:=by simp;omega
   have e4:decide (a+n>(z:Int))=true:=by simp;omega
   rw[show lY R t a n=2 from by unfold lY;rw[ai Gl,af (by rw[hzz];omega)]];clear Gl hzz;go_enter func111,ntmps111;go_wp2_with fail;refine(Z HF).mono ?_;rintro ev w1⟨rfl,rfl⟩;clear HF;go_wp2;go_ret;exact⟨rfl,rfl⟩
  have d4:decide ((z:Int)<a+n)=false:=by simp;omega
  have e4:decide (a+n>(z:Int))=false:=by simp;omega
  rw[show lY R t a n=0 from by unfold lY;rw[ai Gl,ai (by rw[hzz];omega)]];clear Gl hzz;go_enter func111,ntmps111;go_wp2_with fail;refine(Z HF).mono ?_;rintro ev w1⟨rfl,rfl⟩;clear HF;go_wp2;go_ret;exact⟨rfl,rfl⟩
end
section
variable {B:Nat}{w w':World}{ms aK:Nat}{R:df}{t:Int}{i b:Nat}{x x':gy}
theorem wQ (h:mR R t=some b):∃(i:Nat) (x:gy),R.bs[i]?=some b/\R.ab2[i]?=some x/\(x.id:Int)=t:=by
 unfold mR at h;cases hf:R.ab2.findIdx? (λx=>(x.id:Int)==t)with
 |none=>rw[hf]at h;cases h
 |some i =>
  rw[hf]at h;obtain⟨hi,G,_⟩:=List.findIdx?_eq_some_iff_getElem.1 hf;exact⟨i,R.ab2[i],h,ξ hi,by simpa using G⟩
theorem RT.mem (h:RT B w ms aK R)(e1:R.ab2[i]?=some x):∃b,R.bs[i]?=some b:=⟨_,ξ (by have:=(ν.1 e1).1;rw[<- h.len];exact this)⟩
theorem RT.uniq (h:RT B w ms aK R){j:Nat}{y:gy}(e1:R.ab2[i]?=some x)(e2:R.ab2[j]?=some y)(hid:x.id=y.id):i=j:=by
 have hi:=(ν.1 e1);have E:=(ν.1 e2);obtain⟨hi,rfl⟩:=hi;obtain⟨E,rfl⟩:=E;rcases eX i j with q|q|q
 ·have:=cO.1 h.so i j hi E q;omega
 ·exact q
 ·have:=cO.1 h.so j i E hi q;omega
theorem RT.wS (h:RT B w ms aK R) (e1:R.bs[i]?=some b) (e2:R.ab2[i]?=some x) (hw:∀j,j<w.heap.size->j≠b->w'.heap[j]?=w.heap[j]?) (hE:gZ w' b x') (hid:x'.id=x.id) (hl:x'.l.length=R.sz) (hn:1<=x'.n/\x'.n<=16):RT B w' ms aK {R with ab2:=R.ab2.set i x'}:=by
 have J:=h.k i b x e1 e2
 have hms:ms≠b:=h.tg.ne J.1.tg (by decide)
 have h0:=hw ms h.tg.lt hms
 have K:=λj=>η (w:=w) (a:=⟨ms,j,none⟩) h0
 have hi:=(ν.1 e2)
 obtain⟨hi,hx⟩:=hi
 have Wf:∀j y,(R.ab2.set i x')[j]?=some y->(j=i/\y=x')\/(j≠i/\R.ab2[j]?=some y):=λj y hy=>by
  by_cases hji:j=i
  ·subst hji
   rw[aP hi]at hy
   exact ε ⟨rfl,(ah hy).symm⟩
  ·rw[cL (λq=>hji q.symm)]at hy
   exact δ ⟨hji,hy⟩
 exact{h with
  c0:=(K 0).trans h.c0,c1:=(K 1).trans h.c1,c2:=(K 2).trans h.c2,c3:=(K 3).trans h.c3
  tg:=h.tg.blk h0
  fz:=λo=>(π (w:=w) (a:=⟨ms,o,none⟩) h0).trans (h.fz o)
  row:=aI h.row (λg hg=>hw g (ay h.row hg).1.lt (λq=>(ay h.row hg).1.ne J.1.tg (by decide) q))
  len:=by rw[dp];exact h.len
  k:=λj c y q1 q2=>by
   rcases Wf j y q2 with⟨rfl,rfl⟩|⟨hji,q3⟩
   ·rw[e1]at q1
    obtain rfl:=ah q1
    exact⟨hE,J.2⟩
   ·obtain⟨k1,k2⟩:=h.k j c y q1 q3
    refine⟨k1.keep (hw c k1.tg.lt (λq=>hji ?_)),k2⟩
    subst q
    have p1:=ν.1 q1
    have p2:=ν.1 e1
    exact(List.getElem_inj h.V).1 (p1.2.trans p2.2.symm)
  so:=by
   refine cO.2 λj k E D hjk=>?_
   rw[dp]at E D
   have:=cO.1 h.so j k E D hjk
   rw[List.getElem_set,List.getElem_set]
   split<;>split<;>rename_i p1 p2<;>(try subst p1)<;>(try subst p2)<;>simp_all
  le:=λy hy=>by
   obtain⟨j,E⟩:=List.mem_iff_getElem?.1 hy
   rcases Wf j y E with⟨_,rfl⟩|⟨_,q⟩
   ·have:=h.le x (aH e2)
    exact⟨by omega,by show _<=R.last;omega,hl,hn⟩
   ·exact h.le y (aH q)}
def Fx (R:df)(t:Int)(r:Int)(R':df):Prop :=
 (mR R t=none/\r=4/\R'=R)\/∃(i b:Nat) (x:gy),R.bs[i]?=some b/\R.ab2[i]?=some x/\(x.id:Int)=t/\((16<=x.n/\r=10/\R'=R)\/(x.n<16/\r=0/\R' = {R with ab2:=R.ab2.set i {x with n:=x.n+1}}))
theorem qx (h:RT B w ms aK R)(t:Int):Calls prog 109 #[.pointer (some ⟨ms,0,none⟩),.int .i64 t] w λev w'=>∃r R',ev=.returned (.int .i64 r)/\Fx R t r R'/\RT B w' ms aK R'/\Kp (λj=>j∈R.bs) w w':=by
 have HF:=I (l6 h t);have HH:=I h;clear h;cases hf:mR R t with
 |none =>
  rw[hf]at HF;simp only[Option.map_none]at HF;have HR:Hid (∃r' R',(4:Int)=r'/\Fx R t r' R'/\RT B w ms aK R'/\Kp (λj=>j∈R.bs) w w):=⟨4,R,rfl,ε ⟨hf,rfl,rfl⟩,Z HH,Kp.refl _ w⟩;clear hf HH;go_enter func109,ntmps109;go_wp2_with fail;refine(Z HF).mono ?_;rintro ev w1⟨rfl,rfl⟩;clear HF;go_wp2;go_ret;obtain⟨r',R',G,O⟩:=Z HR;exact⟨r',R',by rw[<- G];rfl,O⟩
 |some b =>
  obtain⟨i,x,e1,e2,e3⟩:=wQ hf;obtain⟨k1,k2⟩:=(Z HH).k i b x e1 e2;have hx:=(Z HH).le x (aH e2);rw[hf]at HF;simp only[Option.map_some]at HF;have c4:=k1.c4;have f4:=k1.fz 4;have I9:=I k1;have hmb:b∈R.bs:=aH e1;by_cases h16:16<=x.n
  ·have d1:decide ((x.n:Int)>=16)=true:=by simp;omega
   have d2:decide ((16:Int)<=(x.n:Int))=true:=by simp;omega
   have HR:Hid (∃r' R',(10:Int)=r'/\Fx R t r' R'/\RT B w ms aK R'/\Kp (λj=>j∈R.bs) w w):=⟨10,R,rfl,δ ⟨i,b,x,e1,e2,e3,ε ⟨h16,rfl,rfl⟩⟩,Z HH,Kp.refl _ w⟩;clear hf HH e1 e2 e3 k1 k2 hx hmb h16;go_enter func109,ntmps109;go_wp2_with fail;refine(Z HF).mono ?_;rintro ev w1⟨rfl,rfl⟩;clear HF;go_wp2;go_ret;obtain⟨r',R',G,O⟩:=Z HR;exact⟨r',R',by rw[<- G];rfl,O⟩
  ·have d1:decide ((x.n:Int)>=16)=false:=by simp;omega
   have d2:decide ((16:Int)<=(x.n:Int))=false:=by simp;omega
   have hw:IntKind.i64.wrap ((x.n:Int)+1)=((x.n+1:Nat):Int):=by rw[aB _ (by omega)];rfl
   have hE:gZ (w.setCell ⟨b,4,none⟩ (.int .i64 (x.n+1:Nat))) b {x with n:=x.n+1}:=⟨(bu (by simp)).trans k1.c0,(bu (by simp)).trans k1.c1,(bu (by simp)).trans k1.c2,(bu (by simp)).trans k1.c3,fK k1.c4,k1.tg.set _ _,λo=>(Ψ _ _ _ _).trans (k1.fz o)⟩;have HR:Hid (∃r' R',(0:Int)=r'/\Fx R t r' R'/\RT B (w.setCell ⟨b,4,none⟩ (.int .i64 (x.n+1:Nat))) ms aK R'/\Kp (λj=>j∈R.bs) w (w.setCell ⟨b,4,none⟩ (.int .i64 (x.n+1:Nat)))):=⟨0,_,rfl,δ ⟨i,b,x,e1,e2,e3,δ ⟨by omega,rfl,rfl⟩⟩,(Z HH).wS e1 e2 (λj _ E=>μ _ _ _ _ E) hE rfl hx.2.2.1 (by show 1<=x.n+1/\x.n+1<=16;omega),Kp.set w b 4 _ hmb⟩;clear hf HH e1 e2 e3 k1 k2 hx hmb h16 hE;go_enter func109,ntmps109;go_wp2_with fail;refine(Z HF).mono ?_;rintro ev w1⟨rfl,rfl⟩;clear HF;go_wp2;go_ret;obtain⟨r',R',G,O⟩:=Z HR;exact⟨r',R',by rw[<- G];rfl,O⟩
theorem zy {ab2:List gy}{i:Nat}{x:gy}(h:ab2[i]?=some x):dX ((ab2.take (i+1)).map (·.id))=dX ((ab2.take i).map (·.id))++[.int .i64 x.id]:=by
 obtain⟨hi,rfl⟩:=ν.1 h;rw[aL hi,cU,nz];rfl
theorem D9 (h:RT B w ms aK R):Calls prog 47 #[.pointer (some ⟨ms,0,none⟩)] w λev w'=>∃v,ev=.returned v/\w'.ownsRow w.heap.size 3 1 v R.ab2.length (dX (R.ab2.map (·.id)))/\Below w.heap.size w w':=by
 obtain⟨i0,eO,hz0,hz1,hz2⟩:=aY info3;have HI:=I eO;have HZ:=I hz0;have eI:=I hz1;have eJ:=I hz2;have HH:=I h;obtain⟨p,cp,hv⟩:=aX h.row;have HV:=I hv;generalize hn:R.bs.length=n at*;have HN:=I hn;have nk:=I (h.len.trans hn);have KR:n<=1000000:=by rw[<- hn];exact h.cnt
 have hlt:=h.tg.lt;clear h hv hn eO hz0 hz1 hz2;go_enter func47,ntmps47;go_wp2_with fail;go_loopw [3,4] (λs3 s4 wr=>∃i:Nat,s4=.int .i64 i/\i<=n/\Hid (wr.ownsRow w.heap.size 3 1 s3 i (dX ((R.ab2.take i).map (·.id))))/\Hid (Below w.heap.size w wr)) (λ_ s _=>n-(intOf s).toNat)
 case atStart=>exact⟨0,rfl,Γ _,Ξ _ _ _ _,γ _ _⟩
 case round =>
  obtain⟨i,rfl,hi,HO,HB⟩:=hrel;have eO:(0:Int)<=i:=by omega
  have hwi:IntKind.i64.wrap ((i:Int)+1)=(i:Int)+1:=aB _ (by omega);have hR:=(Z HH).b (Z HB);have c2:=hR.c2;rw[Z HV]at c2;by_cases eY:i<n
  ·have ja:(i:Int)<n:=by omega
   obtain⟨b,x,e1,e2,e3,e4⟩:=hR.at (i:=i) (by rw[Z HN];exact eY);have hrow:=hR.row;rw[Z HV,Z HN]at hrow;obtain⟨g,rfl⟩:∃g,p=some ⟨g,0,none⟩:=by
    obtain⟨g,c',hg,_⟩:=hrow.form (by omega);simp only[ψ]at hg;exact⟨g,hg.1⟩
   have x0:=hrow.cellAt i (by simp;omega);rw[dy,e1]at x0;simp only[Option.map_some,mK]at x0;have y0:=e3.c0;have HT:=I (zy e2);have HW:=I (bL (Z HO));have hB:=(Z HB).size;clear e1 e2 e3 e4 hrow hR;go_wp2_with (at_builtin;refine Ω _ rfl (.tmp 14) (.tmp 25) 38 rfl w.heap.size 3 i0 (.int .i64 0) 1 8 underlying38 (Z HI) (Z HZ) (Z eI) (Z eJ) rfl (by decide) _ _ _ rfl ((Z HO).alloc _) ⟨wr.heap.size,0,none⟩ 1 1 [.int .i64 x.id] rfl rfl (by intro j u E;match j,E with|0,E=>(simp at E;subst E;simp[Addr.add])) (by intro u hu;simp at hu;subst hu;rfl) (by unfold maxLen;omega) (by omega) (by simp;omega) ?_;intro v' w5 hown' hgrow kP);have JY:Hid (w5.ownsRow w.heap.size 3 1 v' (i+1) (dX ((R.ab2.take (i+1)).map (·.id)))):=by
    show w5.ownsRow w.heap.size 3 1 v' (i+1) (dX ((R.ab2.take (i+1)).map (·.id)));rw[Z HT];exact hown'
   have uI:=I ((χ (Z HB) _).grown hgrow (by simp;omega) (Z HW));clear hown' hgrow kP HO HB HW x0 y0 c2;go_wp2_with fail;go_roundw;case rel=>exact⟨i+1,by go_num,by omega,JY,uI⟩
   case measure=>simp[intOf];omega
  ·obtain rfl:i=n:=by omega
   have kn:¬(i:Int)<i:=by omega
   have hO:=Z HO;have hl:=Z nk;rw[show R.ab2.take i=R.ab2 from by rw[<- hl,b_]]at hO;have JZ:=I hO;clear HO hO hR;go_wp2_with fail;go_ret;exact⟨_,rfl,Z JZ,Z HB⟩
theorem uz (h:RT B w ms aK R){t:Int}{a:Nat}(s:ByteArray)(e1:R.bs[i]?=some b)(e2:R.ab2[i]?=some x)(e3:(x.id:Int)=t)(hle:a+s.size<=R.sz)(G:x.n=1):Calls prog 113 #[.pointer (some ⟨ms,0,none⟩),.int .i64 t,.int .i64 a,.string s] w λev w'=>ev=.returned (.int .i64 0)/\RT B w' ms aK {R with ab2:=R.ab2.set i {x with l:=nu x.l a s.data.toList}}/\Kp (λj=>j∈R.bs) w w':=by
 obtain⟨k1,k2⟩:=h.k i b x e1 e2;have hx:=h.le x (aH e2);have hfn:mR R t=some b:=oK e1 e2 e3 (λj y E hy q=>by
  have:=h.uniq hy e2 (by omega);omega)
 have hz:=h.oP;have HF:=I (l6 h t);rw[hfn]at HF;simp only[Option.map_some]at HF;have yz:=I (l7 h t a s.size);rw[show lY R t a s.size=0 from by unfold lY;rw[ai (by rw[hfn];simp),ai (by omega)]]at yz;have c3:=k1.c3;have c4:=k1.c4;have f3:=k1.fz 3;rw[G]at c4;have OI:=hx.2.2.1;generalize hl:x.l=l at*;have hsz0:(⟨l.toArray⟩:ByteArray).size=l.length:=by simp[ByteArray.size]
 have hw:IntKind.i64.wrap ((a:Int)+(s.size:Int))=(a:Int)+(s.size:Int):=aB _ (by omega);obtain⟨A1,kN,R1,q1,q2,q3,q4⟩:∃A1 kN R1:ByteArray,(∀W,(Instr.slice 9 (.string ⟨l.toArray⟩) none (some (.int .i64 a)) none).run prog W=.ok (.string A1) W)/\(∀W,(Instr.slice 9 (.string ⟨l.toArray⟩) (some (.int .i64 ((a:Int)+(s.size:Int)))) none none).run prog W=.ok (.string kN) W)/\(∀W,(Op.stringOp .add A1 s).run prog W=.ok (.string R1) W)/\(∀W,(Op.stringOp .add R1 kN).run prog W=.ok (.string ⟨(nu l a s.data.toList).toArray⟩) W):=by
  have Zc:s=⟨s.data.toList.toArray⟩:=by cases s;simp
  have YN:s.data.toList.length=s.size:=(Lib.size_eq s).symm;refine⟨⟨(l.take a).toArray⟩,⟨(l.drop (a+s.size)).toArray⟩,⟨(l.take a++s.data.toList).toArray⟩,λW=>?_,λW=>?_,λW=>?_,λW=>?_⟩
  ·rw[run_slice_string_h W 9 _ underlying9 .i64 a (by omega) (by rw[hsz0];omega)];congr 3;apply ByteArray.ext;apply Array.ext';simp
  ·rw[run_slice_string_l W 9 _ underlying9 .i64 _ (by omega) (by rw[hsz0];omega)];congr 3;apply ByteArray.ext;apply Array.ext';rw[hsz0,show((a:Int)+(s.size:Int)).toNat=a+s.size from by omega];simp;exact bG (by simp)
  ·conv=>lhs;rw[Zc]
   exact run_string_add_lists W _ _ (by simp;omega) (by rw[YN];omega)
  ·rw[run_string_add_lists W _ _ (by simp[YN];omega) (by simp;omega)];simp[nu,YN]
 have Kc:=hz.2;have Ed:=I hsz0;have hE:gZ (w.setCell ⟨b,3,none⟩ (.string ⟨(nu l a s.data.toList).toArray⟩)) b {x with l:=nu l a s.data.toList}:=⟨(bu (by simp)).trans k1.c0,(bu (by simp)).trans k1.c1,(bu (by simp)).trans k1.c2,fK k1.c3,(bu (by simp)).trans k1.c4,k1.tg.set _ _,λo=>(Ψ _ _ _ _).trans (k1.fz o)⟩;have hsp:(nu l a s.data.toList).length=R.sz:=by rw[sH (by rw[(Lib.size_eq s).symm];omega)];exact OI
 have Es:Hid (∀W:World,Below w.heap.size w W->W.heap.size=w.heap.size->RT B (W.setCell ⟨b,3,none⟩ (.string ⟨(nu l a s.data.toList).toArray⟩)) ms aK {R with ab2:=R.ab2.set i {x with l:=nu l a s.data.toList}}/\Kp (λj=>j∈R.bs) w (W.setCell ⟨b,3,none⟩ (.string ⟨(nu l a s.data.toList).toArray⟩))):=λW J hsz=>by
  have jD:=k1.keep (J.block b k1.tg.lt);have Ke:gZ (W.setCell ⟨b,3,none⟩ (.string ⟨(nu l a s.data.toList).toArray⟩)) b {x with l:=nu l a s.data.toList}:=⟨(bu (by simp)).trans jD.c0,(bu (by simp)).trans jD.c1,(bu (by simp)).trans jD.c2,fK jD.c3,(bu (by simp)).trans jD.c4,jD.tg.set _ _,λo=>(Ψ _ _ _ _).trans (jD.fz o)⟩;exact⟨(h.b J).wS e1 e2 (λj _ E=>μ _ _ _ _ E) Ke rfl hsp ⟨hx.2.2.2.1,hx.2.2.2.2⟩,(Kp.below J).trans (Kp.set W b 3 _ (aH e1))⟩
 generalize(⟨(nu l a s.data.toList).toArray⟩:ByteArray)=R2 at*;generalize(⟨l.toArray⟩:ByteArray)=S0 at*;clear h hx hz hfn hl k1 k2 hE hsp hsz0 e1 e2 e3 OI G;go_enter func113,ntmps113;go_wp2_with fail;refine(Z yz).mono ?_;rintro ev w1⟨rfl,rfl⟩;clear yz;go_wp2_with fail;refine(Z HF).mono ?_;rintro ev w2⟨rfl,rfl⟩;clear HF;go_upto_region 7 with(fail);go_region
 all_goals
  obtain⟨hR,hK⟩:=(Z Es) w2.drew (dw w2) rfl;have HR:=I hR;have HK:=I hK;clear Es hR hK q1 q2 q3 q4 c3 c4 f3;go_wp2;go_ret;exact⟨rfl,Z HR,Z HK⟩
theorem qF (R:df)(t a n:Int):(lY R t a n=0/\mR R t≠none/\0<=a/\0<=n/\a+n<=R.sz)\/lY R t a n=4\/lY R t a n=2:=by
 unfold lY;split
 ·exact δ (ε rfl)
 ·split
  ·exact δ (δ rfl)
  ·rename_i G O;exact ε ⟨rfl,G,by omega,by omega,by omega⟩
theorem nT (h:RT B w ms aK R)(t a:Int)(s:ByteArray)(hne:lY R t a s.size≠0):Calls prog 113 #[.pointer (some ⟨ms,0,none⟩),.int .i64 t,.int .i64 a,.string s] w λev w'=>ev=.returned (.int .i64 (lY R t a s.size))/\w'=w:=by
 have yz:=I (l7 h t a s.size);have hp:0<lY R t a s.size:=by rcases qF R t a s.size with h|h|h<;>omega
 have d1:decide (lY R t a s.size>0)=true:=by simpa using hp
 have d2:decide (0<lY R t a s.size)=true:=by simpa using hp
 clear h hne hp;generalize lY R t a s.size=q at*;go_enter func113,ntmps113;go_wp2_with fail;refine(Z yz).mono ?_;rintro ev w1⟨rfl,rfl⟩;clear yz;go_wp2;go_ret;exact⟨rfl,rfl⟩
theorem uB (h:RT B w ms aK R){t:Int}{a:Nat}(s:ByteArray)(e1:R.bs[i]?=some b)(e2:R.ab2[i]?=some x)(e3:(x.id:Int)=t)(hle:a+s.size<=R.sz)(G:1<x.n):Calls prog 113 #[.pointer (some ⟨ms,0,none⟩),.int .i64 t,.int .i64 a,.string s] w λev w'=>ev=.returned (.int .i64 6)/\w'=w:=by
 obtain⟨k1,k2⟩:=h.k i b x e1 e2;have hfn:mR R t=some b:=oK e1 e2 e3 (λj y E hy q=>by
  have:=h.uniq hy e2 (by omega);omega)
 have HF:=I (l6 h t);rw[hfn]at HF;simp only[Option.map_some]at HF;have yz:=I (l7 h t a s.size);rw[show lY R t a s.size=0 from by unfold lY;rw[ai (by rw[hfn];simp),ai (by omega)]]at yz;have c4:=k1.c4;have d1:decide ((x.n:Int)>1)=true:=by simp;omega
 have d2:decide ((1:Int)<(x.n:Int))=true:=by simp;omega
 clear h hfn k1 k2 e1 e2 e3;go_enter func113,ntmps113;go_wp2_with fail;refine(Z yz).mono ?_;rintro ev w1⟨rfl,rfl⟩;clear yz;go_wp2_with fail;refine(Z HF).mono ?_;rintro ev w2⟨rfl,rfl⟩;clear HF;go_wp2;go_ret;exact⟨rfl,rfl⟩
end
open Rd
section
variable {B:Nat}{C:Dc}{M:Mc}{U:Nat->Prop}{S:Ds}{ab5:Rs}{w w':World}{ms aK:Nat}{R:df}{t y:Int}{i b:Nat}{x:gy}
theorem RT.fn (h:RT B w ms aK R)(e1:R.bs[i]?=some b)(e2:R.ab2[i]?=some x)(e3:(x.id:Int)=t):mR R t=some b:=oK e1 e2 e3 (λj y E hy q=>by
 have:=h.uniq hy e2 (by omega);omega)
theorem qH (h:RT B w ms aK R)(hf:mR R t=none)(y:Int):Calls prog 110 #[.pointer (some ⟨ms,0,none⟩),.int .i64 y,.int .i64 t] w λev w'=>ev=.returned (.int .i64 4)/\w'=w:=by
 have HF:=I (l6 h t);rw[hf]at HF;simp only[Option.map_none]at HF;clear h hf;go_enter func110,ntmps110;go_wp2_with fail;refine(Z HF).mono ?_;rintro ev w1⟨rfl,rfl⟩;clear HF;go_wp2;go_ret;exact⟨rfl,rfl⟩
theorem o8 (h:RT B w ms aK R)(hp:RP B C M aK U S ab5 w){b:Nat}(hf:mR R t=some b)(hy:¬(0<=y/\y<S.ws.length)):Calls prog 110 #[.pointer (some ⟨ms,0,none⟩),.int .i64 y,.int .i64 t] w λev w'=>ev=.returned (.int .i64 2)/\w'=w:=by
 have HF:=I (l6 h t);rw[hf]at HF;simp only[Option.map_some]at HF;have HW:=I (hp.worker y);rw[dE hy]at HW;have c0:=h.c0;have r0:=hp.m.c0;clear h hp hf hy;go_enter func110,ntmps110;go_wp2_with fail;refine(Z HF).mono ?_;rintro ev w1⟨rfl,rfl⟩;clear HF;go_wp2_with fail;refine(Z HW).mono ?_;rintro ev w2⟨rfl,rfl⟩;clear HW;go_wp2;go_ret;exact⟨rfl,rfl⟩
theorem qW (h:RT B w ms aK R)(hp:RP B C M aK U S ab5 w)(e1:R.bs[i]?=some b)(e2:R.ab2[i]?=some x)(e3:(x.id:Int)=t)(hy:0<=y/\y<S.ws.length)(hn:1<x.n):Calls prog 110 #[.pointer (some ⟨ms,0,none⟩),.int .i64 y,.int .i64 t] w λev w'=>ev=.returned (.int .i64 0)/\RT B w' ms aK {R with ab2:=R.ab2.set i {x with n:=x.n-1}}/\Kp (λj=>j∈R.bs) w w':=by
 have HF:=I (l6 h t);rw[h.fn e1 e2 e3]at HF;simp only[Option.map_some]at HF;have HW:=I (hp.worker y);rw[aM hy]at HW;have c0:=h.c0;have r0:=hp.m.c0;obtain⟨k1,k2⟩:=h.k i b x e1 e2;have hx:=h.le x (aH e2);have c4:=k1.c4;have f4:=k1.fz 4;have Co:((x.n-1:Nat):Int)=(x.n:Int)-1:=by omega
 have hw:IntKind.i64.wrap ((x.n:Int)-1)=(x.n:Int)-1:=aB _ (by omega);have Fh:(w.setCell ⟨b,4,none⟩ (.int .i64 ((x.n:Int)-1))).cell? ⟨b,4,none⟩=some (.int .i64 ((x.n:Int)-1)):=fK c4;have d1:decide ((x.n:Int)-1>0)=true:=by simp;omega
 have d2:decide ((0:Int)<(x.n:Int)-1)=true:=by simp;omega
 have d3:decide ((1:Int)<(x.n:Int))=true:=by simp;omega
 have d4:¬(x.n:Int)<=1:=by omega
 have hE:gZ (w.setCell ⟨b,4,none⟩ (.int .i64 ((x.n:Int)-1))) b {x with n:=x.n-1}:=⟨(bu (by simp)).trans k1.c0,(bu (by simp)).trans k1.c1,(bu (by simp)).trans k1.c2,(bu (by simp)).trans k1.c3,by show _=some (Value.int .i64 ((x.n-1:Nat):Int));rw[Co];exact Fh,k1.tg.set _ _,λo=>(Ψ _ _ _ _).trans (k1.fz o)⟩;have HR:=I (h.wS e1 e2 (λj _ E=>μ _ _ _ _ E) hE rfl hx.2.2.1 (by show 1<=x.n-1/\x.n-1<=16;omega));have HK:Hid (Kp (λj=>j∈R.bs) w (w.setCell ⟨b,4,none⟩ (.int .i64 ((x.n:Int)-1)))):=Kp.set w b 4 _ (aH e1);clear h hp hE k1 k2 hx e1 e2 e3 hy hn;go_enter func110,ntmps110;go_wp2_with fail;refine(Z HF).mono ?_;rintro ev w1⟨rfl,rfl⟩;clear HF;go_wp2_with fail;refine(Z HW).mono ?_;rintro ev w2⟨rfl,rfl⟩;clear HW;go_wp2;go_ret;exact⟨rfl,Z HR,Z HK⟩
theorem uE (h:RT B w ms aK R)(hf:mR R t=none)(x y:Int):Calls prog 114 #[.pointer (some ⟨ms,0,none⟩),.int .i64 x,.int .i64 y,.int .i64 t] w λev w'=>ev=.returned (.tuple #[.int .i64 0,.int .i64 4])/\w'=w:=by
 have HF:=I (l6 h t);rw[hf]at HF;simp only[Option.map_none]at HF;clear h hf;go_enter func114,ntmps114;go_wp2_with fail;refine(Z HF).mono ?_;rintro ev w1⟨rfl,rfl⟩;clear HF;go_wp2;go_ret2;exact⟨rfl,rfl⟩
theorem w9 (h:RT B w ms aK R)(e1:R.bs[i]?=some b)(e2:R.ab2[i]?=some x)(e3:(x.id:Int)=t)(hn:x.n=1)(u y:Int):Calls prog 114 #[.pointer (some ⟨ms,0,none⟩),.int .i64 u,.int .i64 y,.int .i64 t] w λev w'=>ev=.returned (.tuple #[.int .i64 t,.int .i64 0])/\w'=w:=by
 have HF:=I (l6 h t);rw[h.fn e1 e2 e3]at HF;simp only[Option.map_some]at HF;obtain⟨k1,k2⟩:=h.k i b x e1 e2;have c4:=k1.c4;rw[hn]at c4;clear h k1 k2 e1 e2 e3 hn;go_enter func114,ntmps114;go_wp2_with fail;refine(Z HF).mono ?_;rintro ev w1⟨rfl,rfl⟩;clear HF;go_wp2;go_ret2;exact⟨rfl,rfl⟩
end
theorem xc:(prog.info? 91).map (λi=>(i.zero,i.size,i.bytes))=some (some (.pointer none),1,8):=by kernel_rfl
theorem q9 (n:Nat)(_hn:n<=64)(W:World):(convert 80 9 (.slice (some ⟨W.heap.size,0,none⟩) n n)).run prog (W.alloc (.cells (Lib.byteCells (List.replicate n 0)).toArray 5))=.ok (.string ⟨(List.replicate n 0).toArray⟩) (W.alloc (.cells (Lib.byteCells (List.replicate n 0)).toArray 5)):=by
 have:=run_convert_bytes_back (P:=prog) (W.alloc (.cells (Lib.byteCells (List.replicate n 0)).toArray 5)) 80 9 5 ⟨W.heap.size,0,none⟩ n (List.replicate n 0) underlying80 underlying5 underlying9 (λj E=>by
  have hj':j<n:=by simpa using E
  rw[Bd.eZ,bj,θ];simp[Lib.byteCells,hj'])
 simpa using this
section
variable {B:Nat}{w w':World}{ms aK:Nat}{R:df}{y:Int}{i b:Nat}{x:gy}{v':Value}{ab9:Bl->World->Prop}
theorem RT.next (h:RT B w ms aK R) (hl:R.last<1000000):RT B (w.setCell ⟨ms,3,none⟩ (.int .i64 (R.last+1:Nat))) ms aK {R with last:=R.last+1}:=by
 have hms:∀j,j∈R.bs->j≠ms:=λj E q=>by
  obtain⟨i,hi⟩:=List.mem_iff_getElem?.1 E
  obtain⟨b,x,e1,e2,e3,e4⟩:=h.at (ν.1 hi).1
  rw[hi]at e1
  obtain rfl:=ah e1
  exact e3.tg.ne h.tg (by decide) q
 exact{h with
  c0:=(bu (by simp)).trans h.c0,c1:=(bu (by simp)).trans h.c1,c2:=(bu (by simp)).trans h.c2,c3:=fK h.c3
  tg:=h.tg.set _ _
  fz:=λo=>(Ψ _ _ _ _).trans (h.fz o)
  row:=aI h.row (λg hg=>μ _ _ _ _ (λq=>(ay h.row hg).1.ne h.tg (by decide) q))
  k:=λi b x e1 e2=>⟨(h.k i b x e1 e2).1.keep (μ _ _ _ _ (hms b (aH e1))),(h.k i b x e1 e2).2⟩
  vV:=by show R.last+1<=1000000;omega
  le:=λy hy=>⟨(h.le y hy).1,by have:=(h.le y hy).2.1;show y.id<=R.last+1;omega,(h.le y hy).2.2⟩}
theorem RT.app (h:RT B w ms aK R) (h0:w'.cell? ⟨ms,0,none⟩=some (.pointer (some ⟨aK,0,none⟩))) (G:w'.cell? ⟨ms,1,none⟩=some (.int .i64 R.sz)) (O:w'.cell? ⟨ms,2,none⟩=some v') (h3:w'.cell? ⟨ms,3,none⟩=some (.int .i64 R.last)) (ht:Tag w' ms 90) (hf:∀o,w'.frozen? ⟨ms,o,none⟩=false)
  (hr:w'.ownsRow B 91 1 v' (R.bs.length+1) (R.bs.map mK++[mK b])) (D:∀j,j∈R.bs->w'.heap[j]?=w.heap[j]?) (J:gZ w' b x) (hn:b∉R.bs) (hB:B<=b) (K:R.bs.length<1000000) (hlt:∀y∈R.ab2,y.id<x.id) (hx:1<=x.id/\x.id<=R.last/\x.l.length=R.sz/\1<=x.n/\x.n<=16):
  RT B w' ms aK {R with v:=v',bs:=R.bs++[b],ab2:=R.ab2++[x]}:=
 {c0:=h0,c1:=G,c2:=O,c3:=h3,tg:=ht,fz:=hf
  row:=by
   show w'.ownsRow B 91 1 v' (R.bs++[b]).length ((R.bs++[b]).map mK)
   rw[φ,cU]
   exact hr
  len:=by show(R.ab2++[x]).length=(R.bs++[b]).length;rw[φ,φ,h.len];rfl
  k:=λi c z e1 e2=>by
   have XC:(R.bs++[b])[i]?=some c:=e1
   have xx:(R.ab2++[x])[i]?=some z:=e2
   by_cases hi:i<R.bs.length
   ·rw[ar hi]at XC
    rw[ar (by rw[h.len];exact hi)]at xx
    exact⟨(h.k i c z XC xx).1.keep (D c (aH XC)),(h.k i c z XC xx).2⟩
   ·rw[aq (by omega)]at XC
    rw[aq (by rw[h.len];omega)]at xx
    have eO:i-R.bs.length=0:=by have:=(ν.1 XC).1;simp at this;omega
    rw[eO]at XC
    rw[h.len,eO]at xx
    simp only[υ,τ]at XC xx
    subst XC xx
    exact⟨J,hB⟩
  V:=by
   show(R.bs++[b]).Nodup
   rw[aF]
   refine⟨h.V,by simp,λa ha c K=>?_⟩
   simp at K
   subst K
   exact λq=>hn (q▸ha)
  ge:=h.ge,oP:=h.oP,vV:=h.vV
  cnt:=by show(R.bs++[b]).length<=1000000;rw[φ];simp;omega
  so:=by
   show(R.ab2++[x]).Pairwise _
   rw[List.pairwise_append]
   refine⟨h.so,by simp,λa ha c K=>?_⟩
   simp at K
   subst K
   exact hlt a ha
  le:=λz hz=>by
   rcases aC.1 hz with h'|h'
   ·exact h.le z h'
   ·simp at h'
    subst h'
    exact hx}
abbrev yA (W:World)(z:Nat)(l oN oA:Int):World:=(((W.alloc (.cells (Lib.byteCells (List.replicate z 0)).toArray 5)).alloc (.cells #[.int .i64 l,.int .i64 oN,.int .i64 oA,.string ⟨(List.replicate z 0).toArray⟩,.int .i64 1] 93)).alloc (.cells #[.pointer (some ⟨W.heap.size+1,0,none⟩)] 91)).drew
theorem pq (W:World)(z:Nat)(l oN oA:Int):Below W.heap.size W (yA W z l oN oA):=(χ (χ (χ (γ _ W) _) _) _).drew
theorem zz (W:World)(z:Nat)(l oN oA:Int):(yA W z l oN oA).heap.size=W.heap.size+3:=by simp[yA]
theorem Et (W:World)(z l:Nat)(oN oA:Int):gZ (yA W z l oN oA) (W.heap.size+1) ⟨l,(oN,oA),List.replicate z 0,1⟩:=by
 have hs:(W.alloc (.cells (Lib.byteCells (List.replicate z 0)).toArray 5)).heap.size=W.heap.size+1:=by simp
 have q':=θ (W.alloc (.cells (Lib.byteCells (List.replicate z 0)).toArray 5)) #[.int .i64 l,.int .i64 oN,.int .i64 oA,.string ⟨(List.replicate z 0).toArray⟩,.int .i64 1] 93;have tg:=bB (W.alloc (.cells (Lib.byteCells (List.replicate z 0)).toArray 5)) #[.int .i64 l,.int .i64 oN,.int .i64 oA,.string ⟨(List.replicate z 0).toArray⟩,.int .i64 1] 93;rw[hs]at q' tg;have h0:gZ ((W.alloc (.cells (Lib.byteCells (List.replicate z 0)).toArray 5)).alloc (.cells #[.int .i64 l,.int .i64 oN,.int .i64 oA,.string ⟨(List.replicate z 0).toArray⟩,.int .i64 1] 93)) (W.heap.size+1) ⟨l,(oN,oA),List.replicate z 0,1⟩:=
  ⟨q' 0,q' 1,q' 2,q' 3,q' 4,tg,λo=>aG _ _ (W.heap.size+1) o hs.symm⟩
 exact h0.keep ((χ (γ _ _) _).drew.block (W.heap.size+1) (by simp))
theorem zB (W:World)(z:Nat)(l oN oA:Int):∀j u,[Value.pointer (some ⟨W.heap.size+1,0,none⟩)][j]?=some u->(yA W z l oN oA).cell? ((⟨W.heap.size+2,0,none⟩:Addr).add j)=some u:=by
 intro j u E
 match j,E with
 |0,E =>
  simp only[υ,τ]at E;subst E;have hs:((W.alloc (.cells (Lib.byteCells (List.replicate z 0)).toArray 5)).alloc (.cells #[.int .i64 l,.int .i64 oN,.int .i64 oA,.string ⟨(List.replicate z 0).toArray⟩,.int .i64 1] 93)).heap.size=W.heap.size+2:=by simp
  have q':=θ ((W.alloc (.cells (Lib.byteCells (List.replicate z 0)).toArray 5)).alloc (.cells #[.int .i64 l,.int .i64 oN,.int .i64 oA,.string ⟨(List.replicate z 0).toArray⟩,.int .i64 1] 93)) #[.pointer (some ⟨W.heap.size+1,0,none⟩)] 91;rw[hs]at q';exact q' 0
theorem zC {W w4:World} {p:Option Addr} {n cp g4 c4 b9:Nat} {oN oA:Int} (h:RT B W ms aK {R with last:=R.last+1}) (hv:R.v=.slice p n cp) (hn:R.bs.length=n) (K:n<1000000) (hE:∀y∈R.ab2,y.id<R.last+1)
  (t9:Tag W b9 34) (b0:W.cell? ⟨b9,0,none⟩=some (.int .i64 oN)) (b1:W.cell? ⟨b9,1,none⟩=some (.int .i64 oA))
  (o4:w4.ownsRow B 91 1 (.slice (some ⟨g4,0,none⟩) (n+1) c4) (n+1) (R.bs.map mK++[.pointer (some ⟨W.heap.size+1,0,none⟩)])) (q4:(yA W R.sz (R.last+1) oN oA).grownBy w4 (Value.slice p n cp).ownBlock) (hg:(Value.slice p n cp).ownBlock=some g4\/g4=(yA W R.sz (R.last+1) oN oA).heap.size):
  (w4.cell? ⟨ms,2,none⟩=some (.slice p n cp)/\w4.cell? ⟨ms,3,none⟩=some (.int .i64 ((R.last:Int)+1))/\w4.cell? ⟨ms,1,none⟩=some (.int .i64 R.sz)/\w4.cell? ⟨b9,0,none⟩=some (.int .i64 oN)/\w4.cell? ⟨b9,1,none⟩=some (.int .i64 oA))/\w4.frozen? ⟨ms,2,none⟩=false /\
   RT B (w4.setCell ⟨ms,2,none⟩ (.slice (some ⟨g4,0,none⟩) (n+1) c4)) ms aK {R with last:=R.last+1,v:=.slice (some ⟨g4,0,none⟩) (n+1) c4,bs:=R.bs++[W.heap.size+1],ab2:=R.ab2++[⟨R.last+1,(oN,oA),List.replicate R.sz 0,1⟩]} /\
   Kp (λj=>j=ms\/OB R.v j) W (w4.setCell ⟨ms,2,none⟩ (.slice (some ⟨g4,0,none⟩) (n+1) c4))/\∀j,OB (.slice (some ⟨g4,0,none⟩) (n+1) c4) j->OB R.v j\/W.heap.size<=j:=by
 have hrow:=h.row
 simp only at hrow
 have Fy:∀j,some j=(Value.slice p n cp).ownBlock->OB R.v j:=λj e=>by
  show R.v.ownBlock=some j
  rw[hv];exact e.symm
 have hB:=pq W R.sz (R.last+1) oN oA
 have hs:=zz W R.sz (R.last+1) oN oA
 have D:∀j,j<W.heap.size->¬OB R.v j->w4.heap[j]?=W.heap[j]?:=λj E hne=>(q4.block j (by rw[hs];omega) (λe=>hne (Fy j e))).trans (hB.block j E)
 have hms:¬OB R.v ms:=λq=>(ay hrow q).1.ne h.tg (by decide) rfl
 have h9:¬OB R.v b9:=λq=>(ay hrow q).1.ne t9 (by decide) rfl
 have k0:=D ms h.tg.lt hms
 have k9:=D b9 t9.lt h9
 have c0:=(η (a:=⟨ms,0,none⟩) k0).trans h.c0
 have c1:=(η (a:=⟨ms,1,none⟩) k0).trans h.c1
 have c2:=(η (a:=⟨ms,2,none⟩) k0).trans h.c2
 have c3:=(η (a:=⟨ms,3,none⟩) k0).trans h.c3
 have d0:=(η (a:=⟨b9,0,none⟩) k9).trans b0
 have d1:=(η (a:=⟨b9,1,none⟩) k9).trans b1
 have hf:∀o,w4.frozen? ⟨ms,o,none⟩=false:=λo=>(π (a:=⟨ms,o,none⟩) k0).trans (h.fz o)
 have hl:=λj E=>h.lt (j:=j) E
 have eY:∀j,j∈R.bs->j<W.heap.size/\j≠ms/\¬OB R.v j:=λj E=>by
  obtain⟨i,hi⟩:=List.mem_iff_getElem?.1 E
  obtain⟨b,x,e1,e2,e3,e4⟩:=h.at (i:=i) (ν.1 hi).1
  simp only at e1
  rw[hi]at e1
  obtain rfl:=ah e1
  exact⟨e3.tg.lt,λq=>e3.tg.ne h.tg (by decide) q,λq=>(ay hrow q).1.ne e3.tg (by decide) rfl⟩
 have jk:gZ w4 (W.heap.size+1) ⟨R.last+1,(oN,oA),List.replicate R.sz 0,1⟩:=(Et W R.sz (R.last+1) oN oA).keep (q4.block (W.heap.size+1) (by rw[hs];omega) (λe=>by
  have:=(hl (W.heap.size+1) (δ (ε (Fy _ e)))).1
  omega))
 have nt:Tag w4 ms 90:=h.tg.blk k0
 have hgn:g4≠ms:=λq=>by
  have:OB (.slice (some ⟨g4,0,none⟩) (n+1) c4) g4:=rfl
  exact(ay o4 this).1.ne nt (by decide) q
 have hw:∀j,j≠ms->(w4.setCell ⟨ms,2,none⟩ (.slice (some ⟨g4,0,none⟩) (n+1) c4)).heap[j]?=w4.heap[j]?:=λj E=>μ _ _ _ _ E
 have e1:((R.last+1:Nat):Int)=(R.last:Int)+1:=by omega
 refine⟨⟨by rw[c2,<- hv],by rw[c3];simp,c1,d0,d1⟩,hf 2,?_,?_,?_⟩
 ·have hR:=h.app (w':=w4.setCell ⟨ms,2,none⟩ (.slice (some ⟨g4,0,none⟩) (n+1) c4)) (v':=.slice (some ⟨g4,0,none⟩) (n+1) c4) (b:=W.heap.size+1) (x:=⟨R.last+1,(oN,oA),List.replicate R.sz 0,1⟩)
   ((bu (by simp)).trans c0) ((bu (by simp)).trans c1) (fK c2) ((bu (by simp)).trans c3) (nt.set _ _) (λo=>(Ψ _ _ _ _).trans (hf o))
   (by
    show World.ownsRow _ B 91 1 _ (R.bs.length+1) (R.bs.map mK++[mK (W.heap.size+1)])
    rw[hn]
    exact aI o4 (λg hg=>hw g (λq=>by
     obtain rfl:g4=g:=by simpa[OB,Value.ownBlock]using hg
     exact hgn q)))
   (λj E=>(hw j (eY j E).2.1).trans (D j (eY j E).1 (eY j E).2.2))
   (jk.keep (hw _ (λq=>by have:=h.tg.lt;omega)))
   (λq=>by have:=(eY _ q).1;omega) (by have:=h.ge;have:=h.tg.lt;omega) (by show R.bs.length<1000000;omega) hE ⟨by show 1<=R.last+1;omega,ζ _,by simp,by simp,by simp⟩
  exact hR
 ·have G:Kp (λj=>j=ms\/OB R.v j) W (yA W R.sz (R.last+1) oN oA):=Kp.below hB
  have O:Kp (λj=>j=ms\/OB R.v j) (yA W R.sz (R.last+1) oN oA) w4:=⟨q4.os,q4.tape,q4.output,q4.size,λk D hn=>q4.block k D (λe=>hn (δ (Fy k e)))⟩
  exact(G.trans O).trans (Kp.set w4 ms 2 _ (ε rfl))
 ·intro j E
  obtain rfl:g4=j:=by simpa[OB,Value.ownBlock]using E
  rcases hg with h'|h'
  ·exact ε (Fy _ h'.symm)
  ·right;omega
theorem ru (h:RT B w ms aK R)(hlast:R.last<1000000)(hcnt:R.bs.length<1000000){x y:Int}(hK:∀o W W',Below W.heap.size W W'->ab9 o W->ab9 o W')
  (HT:Calls prog 23 #[.pointer (some ⟨aK,0,none⟩),.int .i64 x,.int .i64 y] w λev w1=>∃o:Bl,ev=.returned (.tuple #[bz o.1 o.2,.int .i64 0])/\RT B w1 ms aK R/\ab9 o w1):
  Calls prog 108 #[.pointer (some ⟨ms,0,none⟩),.int .i64 x,.int .i64 y] w λev w'=>ev=.returned (.tuple #[.int .i64 ((R.last:Int)+1),.int .i64 0])/\∃(o:Bl) (w1:World) (v':Value) (b:Nat),ab9 o w1/\RT B w1 ms aK R /\
   RT B w' ms aK {R with last:=R.last+1,v:=v',bs:=R.bs++[b],ab2:=R.ab2++[⟨R.last+1,o,List.replicate R.sz 0,1⟩]}/\Kp (λj=>j=ms\/OB R.v j) w1 w'/\w1.heap.size<=b/\∀j,OB v' j->OB R.v j\/w1.heap.size<=j:=by
 have c0:=h.c0;have HZ:=I (And.intro hlast hcnt);have ze:=h.oP;have HMB:=I (nD R.sz ze.2);have IV:=I (q9 R.sz ze.2);have sN:=I HT;have HK:=I hK;clear h HT hK;unfold bz at*;go_enter func108,ntmps108;go_wp2_with fail;refine(Z sN).mono ?_;rintro ev w2⟨⟨oN,oA⟩,rfl,H2,hk2⟩;clear sN c0;have F3:=χ (γ w2.heap.size w2) (cB oN oA);have H3:=I (H2.b F3);have Cq:=I ((Z HK) _ _ _ F3 hk2);have q':=θ w2 #[.int .i64 oN,.int .i64 oA] 34;have q0:=q' 0;have q1:=q' 1;simp only[Δ,υ,ω]at q0 q1;have T9:=bB w2 #[.int .i64 oN,.int .i64 oA] 34;have c3:=(Z H3).c3;have f3:=(Z H3).fz 3;have hw:IntKind.i64.wrap ((R.last:Int)+1)=(R.last:Int)+1:=aB _ (by have:=(Z HZ).1;omega);have e1:((R.last+1:Nat):Int)=(R.last:Int)+1:=by omega
 have HS:=(Z H3).next (Z HZ).1;have K4:=Kp.set (S:=λj=>j=ms\/OB R.v j) (w2.alloc (cB oN oA)) ms 3 (.int .i64 (R.last+1:Nat)) (ε rfl);have hne:w2.heap.size≠ms:=λq=>T9.ne (Z H3).tg (by decide) q;have b0:=(bu (a:=⟨ms,3,none⟩) (v:=.int .i64 (R.last+1:Nat)) (by simp)).trans q0;have b1:=(bu (a:=⟨ms,3,none⟩) (v:=.int .i64 (R.last+1:Nat)) (by simp)).trans q1;rw[e1]at HS K4 b0 b1;have zA:=I HS;have YY:=I K4;have DU:=I (T9.set ⟨ms,3,none⟩ (.int .i64 ((R.last:Int)+1)));have F9:w2.heap.size<((w2.alloc (cB oN oA)).setCell ⟨ms,3,none⟩ (.int .i64 ((R.last:Int)+1))).heap.size:=by simp
 have hszz:(w2.alloc (cB oN oA)).heap.size=((w2.alloc (cB oN oA)).setCell ⟨ms,3,none⟩ (.int .i64 ((R.last:Int)+1))).heap.size:=by simp
 have sZ:=I hszz;clear H2 hk2 q' F3 q0 q1 T9 HS K4 hne hszz;simp only at*;go_upto_region 7 with(fail);clear c3 f3;have IW:∀y∈R.ab2,y.id<R.last+1:=λy hy=>by have:=((Z H3).le y hy).2.1;omega
 have Kg:=I IW;have I1:∀j,j∈R.bs->j<((w2.alloc (cB oN oA)).setCell ⟨ms,3,none⟩ (.int .i64 ((R.last:Int)+1))).heap.size:=λj E=>((Z zA).lt (j:=j) (δ (δ E))).1;have KS:=I I1;clear IW I1;have hms:=(Z zA).tg.lt;obtain⟨p,cp,hv⟩:=aX (Z zA).row;have hrow:=(Z zA).row;have c2:=(Z zA).c2;have c1:=(Z zA).c1;have c3:=(Z zA).c3;simp only at hv hrow c2 c1 c3;rw[e1]at c3;rw[hv]at hrow c2;have HV:=I hv;clear hv;generalize(w2.alloc (cB oN oA)).setCell ⟨ms,3,none⟩ (.int .i64 ((R.last:Int)+1))=W4 at*;generalize w2.heap.size=b9 at*;have Pt:=I (Z zA).tg;have oG:B<=W4.heap.size:=σ (Z zA).ge (ck hms);have HGE:=I oG;have Yb:=I hrow;have xk:Hid (∀W',Below W4.heap.size W4 W'->W'.cell? ⟨ms,2,none⟩=some (.slice p R.bs.length cp)/\W'.cell? ⟨ms,3,none⟩=some (.int .i64 ((R.last:Int)+1))/\W'.cell? ⟨ms,1,none⟩=some (.int .i64 R.sz)/\W'.cell? ⟨b9,0,none⟩=some (.int .i64 oN)/\W'.cell? ⟨b9,1,none⟩=some (.int .i64 oA)):=λW' hW =>
  ⟨(hW.cell (p:=⟨ms,2,none⟩) hms).trans c2,(hW.cell (p:=⟨ms,3,none⟩) hms).trans c3,(hW.cell (p:=⟨ms,1,none⟩) hms).trans c1,(hW.cell (p:=⟨b9,0,none⟩) F9).trans b0,(hW.cell (p:=⟨b9,1,none⟩) F9).trans b1⟩
 have hmk:=(Z HMB) W4.drew;have hcv:(convert 80 9 (.slice (some ⟨W4.heap.size,0,none⟩) R.sz R.sz)).run prog (W4.alloc (.cells (Lib.byteCells (List.replicate R.sz 0)).toArray 5)).drew=.ok (.string ⟨(List.replicate R.sz 0).toArray⟩) (W4.alloc (.cells (Lib.byteCells (List.replicate R.sz 0)).toArray 5)).drew:=(Z IV) W4.drew;have U0:(yA W4 R.sz (R.last+1) oN oA).ownsRow B 91 1 (.slice p R.bs.length cp) R.bs.length (R.bs.map mK):=aN hrow (pq W4 _ _ _ _);have HU:=I U0;obtain⟨i0,eO,hz0,hz1,hz2⟩:=aY xc;have HI:=I eO;have HZ0:=I hz0;have eI:=I hz1;have eJ:=I hz2;have Tj:=I b0;have Dn:=I b1;clear eO hz0 hz1 hz2 U0 hrow oG c1 c2 c3 b0 b1;generalize hn:R.bs.length=n at*;have HN:=I hn;clear hn;clear HMB IV HK;go_region_held_law (λW'=>W'.cell? ⟨ms,2,none⟩=some (.slice p n cp)/\W'.cell? ⟨ms,3,none⟩=some (.int .i64 ((R.last:Int)+1))/\W'.cell? ⟨ms,1,none⟩=some (.int .i64 R.sz)/\W'.cell? ⟨b9,0,none⟩=some (.int .i64 oN)/\W'.cell? ⟨b9,1,none⟩=some (.int .i64 oA)) (first|exact(Z xk) _ (dw _)|exact(Z xk) _ (χ (γ _ _) _).drew|exact(Z xk) _ (χ (χ (γ _ _) _) _).drew|exact(Z xk) _ (χ (χ (χ (γ _ _) _) _) _).drew|assumption|(go_keep;done)) ((refine bX _ rfl (.tmp 59) (.tmp 73) 88 rfl B 91 i0 (.pointer none) 1 8 underlying88 (Z HI) (Z HZ0) (Z eI) (Z eJ) rfl (by decide) (.slice p n cp) n (R.bs.map mK) (by simp[Act.eval]) (Z HU) ⟨W4.heap.size+2,0,none⟩ 1 1 [.pointer (some ⟨W4.heap.size+1,0,none⟩)] (by simp[Act.eval]) rfl (zB W4 R.sz _ oN oA) (by intro u hu;simp at hu;subst hu;rfl) (by omega) (by have:=(Z HZ).2;unfold maxLen;omega) (by have:=(Z HZ).2;omega) (by have:=Z HGE;simp;omega) _ rfl ?_;intro g4 c4 w4 o4 q4 hg4 kE;obtain⟨Bt,f4,r4,k4,n4⟩:=zC (Z zA) (Z HV) (Z HN) (Z HZ).2 (Z Kg) (Z DU) (Z Tj) (Z Dn) o4 q4 hg4;have R4:=I r4;have K4:=I k4;have N4:=I n4;clear r4 k4 n4 o4 q4 hg4 kE));all_goals
  obtain⟨z2,z3,z1,kY,z8⟩:=Bt;clear hcv hmk Yb HU xk z1 kY z8;go_wp2;go_ret2;refine⟨rfl,(oN,oA),_,_,_,Z Cq,Z H3,Z R4,(Z YY).trans (Z K4),?_,λj E=>?_⟩
  ·have:=Z sZ;omega
  ·have G:=Z N4 j E;have:=Z sZ;rcases G with G|G
   ·exact ε G
   ·right;omega
end
section
variable {B:Nat}{w w':World}{ms aK:Nat}{R:df}{y:Int}{b:Nat}{x:gy}{ab9:World->Prop}{t:Int}{i:Nat}{v':Value}
theorem nY (h:RT B w ms aK R){x y:Int}{r:Int}(hr:0<r/\r≠8)(hK:∀W W',Below W.heap.size W W'->ab9 W->ab9 W')
  (HT:Calls prog 23 #[.pointer (some ⟨aK,0,none⟩),.int .i64 x,.int .i64 y] w λev w1=>ev=.returned (.tuple #[bz 0 0,.int .i64 r])/\RT B w1 ms aK R/\ab9 w1):
  Calls prog 108 #[.pointer (some ⟨ms,0,none⟩),.int .i64 x,.int .i64 y] w λev w'=>ev=.returned (.tuple #[.int .i64 0,.int .i64 r])/\RT B w' ms aK R/\ab9 w':=by
 have c0:=h.c0;have sN:=I HT;have HK:=I hK;have d0:(r==8)=false:=by simp;exact hr.2
 have d1:decide (r=8)=false:=by simp;exact hr.2
 have d2:decide (r>0)=true:=by simp;exact hr.1
 have d3:decide (0<r)=true:=by simp;exact hr.1
 clear h HT hK hr;unfold bz at*;go_enter func108,ntmps108;go_wp2_with fail;refine(Z sN).mono ?_;rintro ev w2⟨rfl,H2,hk2⟩;have F3:=χ (γ w2.heap.size w2) (cB 0 0);have H3:=I (H2.b F3);have Cq:=I ((Z HK) _ _ F3 hk2);clear sN c0 H2 hk2 F3 HK;go_wp2;go_ret2;exact⟨rfl,Z H3,Z Cq⟩
theorem sO (h:RT B w ms aK R)(e1:R.bs[i]?=some b)(e2:R.ab2[i]?=some x)(e3:(x.id:Int)=t)(hn:1<x.n){u y:Int}{r:Int}(hr:0<r)
  (HT:Calls prog 108 #[.pointer (some ⟨ms,0,none⟩),.int .i64 u,.int .i64 y] w λev w'=>ev=.returned (.tuple #[.int .i64 0,.int .i64 r])/\ab9 w'):
  Calls prog 114 #[.pointer (some ⟨ms,0,none⟩),.int .i64 u,.int .i64 y,.int .i64 t] w λev w'=>ev=.returned (.tuple #[.int .i64 0,.int .i64 r])/\ab9 w':=by
 have HF:=I (l6 h t);rw[h.fn e1 e2 e3]at HF;simp only[Option.map_some]at HF;have sN:=I HT;obtain⟨k1,k2⟩:=h.k i b x e1 e2;have c4:=k1.c4;have d0:((x.n:Int)==1)=false:=by simp;omega
 have d1:decide ((x.n:Int)=1)=false:=by simp;omega
 have d2:decide (r>0)=true:=by simp;omega
 have d3:decide (0<r)=true:=by simp;omega
 have d4:¬x.n=1:=by omega
 clear h HT e1 e2 e3 k1 k2 hn hr;go_enter func114,ntmps114;go_wp2_with fail;refine(Z HF).mono ?_;rintro ev w1⟨rfl,rfl⟩;clear HF;go_wp2_with fail;refine(Z sN).mono ?_;rintro ev w2⟨rfl,D⟩;have HK:=I D;clear sN c4 D;go_wp2;go_ret2;exact⟨rfl,Z HK⟩
theorem RT.copied {o:Bl}{l0:List UInt8}(h:RT B w ms aK {R with last:=R.last+1,v:=v',bs:=R.bs++[b],ab2:=R.ab2++[⟨R.last+1,o,l0,1⟩]}){c:Nat}(e1:R.bs[i]?=some c)(e2:R.ab2[i]?=some x)(hn:1<x.n):
  c≠b/\(w.cell? ⟨c,3,none⟩=some (.string ⟨x.l.toArray⟩)/\w.cell? ⟨c,4,none⟩=some (.int .i64 x.n)/\w.frozen? ⟨c,4,none⟩=false/\w.frozen? ⟨b,3,none⟩=false/\(∃s0,w.cell? ⟨b,3,none⟩=some s0))/\mR {R with last:=R.last+1,v:=v',bs:=R.bs++[b],ab2:=R.ab2++[⟨R.last+1,o,l0,1⟩]} ((R.last:Int)+1)=some b /\
   ∀W,Below w.heap.size w W->W.heap.size=w.heap.size->RT B ((W.setCell ⟨b,3,none⟩ (.string ⟨x.l.toArray⟩)).setCell ⟨c,4,none⟩ (.int .i64 ((x.n:Int)-1))) ms aK {R with last:=R.last+1,v:=v',bs:=R.bs++[b],ab2:=R.ab2.set i {x with n:=x.n-1}++[⟨R.last+1,o,x.l,1⟩]} /\
    Kp (λj=>j∈R.bs++[b]) w ((W.setCell ⟨b,3,none⟩ (.string ⟨x.l.toArray⟩)).setCell ⟨c,4,none⟩ (.int .i64 ((x.n:Int)-1))):=by
 have hlen:=h.len;simp only[φ,bk,aA]at hlen;have hi:=(ν.1 e1).1;have Gt:=(ν.1 e2).1;have a1:(R.bs++[b])[i]?=some c:=by rw[ar hi];exact e1
 have a2:(R.ab2++[(⟨R.last+1,o,l0,1⟩:gy)])[i]?=some x:=by rw[ar Gt];exact e2
 have b1:(R.bs++[b])[R.bs.length]?=some b:=by simp
 have b2:(R.ab2++[(⟨R.last+1,o,l0,1⟩:gy)])[R.bs.length]?=some ⟨R.last+1,o,l0,1⟩:=by
  rw[show R.bs.length=R.ab2.length from by omega];simp
 have hcb:c≠b:=λq=>by
  have hnd:=h.V;simp only at hnd;rw[aF]at hnd;exact hnd.2.2 c (aH e1) b (by simp) q
 obtain⟨kc,_⟩:=h.k i c x a1 a2;obtain⟨kb,_⟩:=h.k R.bs.length b _ b1 b2;have hx:=h.le x (aH a2);refine⟨hcb,⟨kc.c3,kc.c4,kc.fz 4,kb.fz 3,_,kb.c3⟩,?_,λW hW hsz=>?_⟩
 ·exact h.fn b1 b2 (by show((R.last+1:Nat):Int)=(R.last:Int)+1;omega)
 ·have y8:=h.b hW;obtain⟨kb,_⟩:=y8.k R.bs.length b _ b1 b2;have hE:gZ (W.setCell ⟨b,3,none⟩ (.string ⟨x.l.toArray⟩)) b ⟨R.last+1,o,x.l,1⟩:=⟨(bu (by simp)).trans kb.c0,(bu (by simp)).trans kb.c1,(bu (by simp)).trans kb.c2,fK kb.c3,(bu (by simp)).trans kb.c4,kb.tg.set _ _,λo=>(Ψ _ _ _ _).trans (kb.fz o)⟩;have O:=y8.wS b1 b2 (λj _ E=>μ _ _ _ _ E) hE rfl hx.2.2.1 ⟨ζ _,by simp⟩;have g:(R.ab2++[(⟨R.last+1,o,l0,1⟩:gy)]).set R.bs.length ⟨R.last+1,o,x.l,1⟩=R.ab2++[⟨R.last+1,o,x.l,1⟩]:=by
   rw[show R.bs.length=R.ab2.length from by omega];simp
  simp only at O;rw[g]at O;have a3:(R.ab2++[(⟨R.last+1,o,x.l,1⟩:gy)])[i]?=some x:=by rw[ar Gt];exact e2
  obtain⟨kc,_⟩:=O.k i c x a1 a3;have Co:((x.n-1:Nat):Int)=(x.n:Int)-1:=by omega
  have hE2:gZ ((W.setCell ⟨b,3,none⟩ (.string ⟨x.l.toArray⟩)).setCell ⟨c,4,none⟩ (.int .i64 ((x.n:Int)-1))) c {x with n:=x.n-1}:=⟨(bu (by simp)).trans kc.c0,(bu (by simp)).trans kc.c1,(bu (by simp)).trans kc.c2,(bu (by simp)).trans kc.c3,by show _=some (Value.int .i64 ((x.n-1:Nat):Int));rw[Co];exact fK kc.c4,kc.tg.set _ _,λo=>(Ψ _ _ _ _).trans (kc.fz o)⟩;have h3:=O.wS a1 a3 (λj _ E=>μ _ _ _ _ E) hE2 rfl hx.2.2.1 (by show 1<=x.n-1/\x.n-1<=16;omega);simp only at h3;rw[List.set_append_left _ _ Gt]at h3;exact⟨h3,((Kp.below hW).trans (Kp.set W b 3 _ (by simp))).trans (Kp.set _ c 4 _ (ee _ (aH e1)))⟩
theorem xA (h:RT B w ms aK R)(e1:R.bs[i]?=some b)(e2:R.ab2[i]?=some x)(e3:(x.id:Int)=t)(hn:1<x.n){u y:Int}{ab9:Bl->Value->Nat->World->Prop}
  (HT:Calls prog 108 #[.pointer (some ⟨ms,0,none⟩),.int .i64 u,.int .i64 y] w λev w'=>ev=.returned (.tuple #[.int .i64 ((R.last:Int)+1),.int .i64 0])/\∃(o:Bl) (v':Value) (c:Nat),ab9 o v' c w'/\RT B w' ms aK {R with last:=R.last+1,v:=v',bs:=R.bs++[c],ab2:=R.ab2++[⟨R.last+1,o,List.replicate R.sz 0,1⟩]}):
  Calls prog 114 #[.pointer (some ⟨ms,0,none⟩),.int .i64 u,.int .i64 y,.int .i64 t] w λev w'=>ev=.returned (.tuple #[.int .i64 ((R.last:Int)+1),.int .i64 0])/\∃(o:Bl) (v':Value) (c:Nat) (w1:World),ab9 o v' c w1 /\
   RT B w' ms aK {R with last:=R.last+1,v:=v',bs:=R.bs++[c],ab2:=R.ab2.set i {x with n:=x.n-1}++[⟨R.last+1,o,x.l,1⟩]}/\Kp (λj=>j∈R.bs++[c]) w1 w':=by
 have HF:=I (l6 h t);rw[h.fn e1 e2 e3]at HF;simp only[Option.map_some]at HF;have sN:=I HT;obtain⟨k1,k2⟩:=h.k i b x e1 e2;have hx:=h.le x (aH e2);have c4:=k1.c4;have d0:((x.n:Int)==1)=false:=by simp;omega
 have d1:decide ((x.n:Int)=1)=false:=by simp;omega
 have d4:¬x.n=1:=by omega
 have hw:IntKind.i64.wrap ((x.n:Int)-1)=(x.n:Int)-1:=aB _ (by omega);have I8:=I (λ(w':World) (o:Bl) (v':Value) (c:Nat) (hh:RT B w' ms aK {R with last:=R.last+1,v:=v',bs:=R.bs++[c],ab2:=R.ab2++[⟨R.last+1,o,List.replicate R.sz 0,1⟩]})=>RT.copied hh e1 e2 hn);clear h HT e1 e2 e3 k1 k2 hn hx;go_enter func114,ntmps114;go_wp2_with fail;refine(Z HF).mono ?_;rintro ev w1⟨rfl,rfl⟩;clear HF;go_wp2_with fail;refine(Z sN).mono ?_;rintro ev w2⟨rfl,o,v',c,D,hR⟩;have HK:=I D;obtain⟨hcb,⟨z3,z4,f4,f3,s0,y3⟩,hfn,xd⟩:=(Z I8) _ o v' c hR;have eA:=I (l6 (hR.b (dw w2)) ((R.last:Int)+1));rw[hfn]at eA;simp only[Option.map_some]at eA;have Es:=I (xd w2.drew (dw w2) rfl);clear sN c4 D I8 hR hfn xd;go_upto_region 9 with(fail);go_region_with ((go_at_call 112;refine(Z eA).mono ?_;rintro ev w5⟨rfl,rfl⟩));all_goals
  clear eA;go_wp2;go_ret2;exact⟨rfl,o,v',c,_,Z HK,(Z Es).1,(Z Es).2⟩
end
theorem nG {α}(l:List α)(i j:Nat)(a : α)(h:l[j]?=some a):(l.take (j+1)).eraseIdx i=if j=i then(l.take j).eraseIdx i else(l.take j).eraseIdx i++[a]:=by
 have E:=(ν.1 h).1;have ht:l.take (j+1)=l.take j++[a]:=by rw[cK,h];rfl
 have hl:(l.take j).length=j:=by rw[cI];omega
 rw[ht];split
 ·rename_i hji;subst hji;rw[List.eraseIdx_append_of_length_le (by omega),hl,List.eraseIdx_of_length_le (l:=l.take j) (by omega)];simp
 ·rename_i hji;by_cases hlt:i<j
  ·rw[List.eraseIdx_append_of_lt_length (by omega)]
  ·rw[List.eraseIdx_append_of_length_le (by omega),List.eraseIdx_of_length_le (l:=l.take j) (by omega),List.eraseIdx_of_length_le (by simp;omega)]
section
variable {B:Nat}{C:Dc}{M:Mc}{U:Nat->Prop}{S:Ds}{ab5:Rs}{w w':World}{ms aK:Nat}{R:df}{t y:Int}{i b:Nat}{x:gy}{v':Value}
theorem RT.less (h:RT B w ms aK R) (e1:R.bs[i]?=some b) (h0:w'.cell? ⟨ms,0,none⟩=some (.pointer (some ⟨aK,0,none⟩))) (G:w'.cell? ⟨ms,1,none⟩=some (.int .i64 R.sz)) (O:w'.cell? ⟨ms,2,none⟩=some v') (h3:w'.cell? ⟨ms,3,none⟩=some (.int .i64 R.last)) (ht:Tag w' ms 90) (hf:∀o,w'.frozen? ⟨ms,o,none⟩=false)
  (hr:w'.ownsRow B 91 1 v' (R.bs.eraseIdx i).length ((R.bs.eraseIdx i).map mK)) (D:∀j,j∈R.bs->j≠b->w'.heap[j]?=w.heap[j]?):
  RT B w' ms aK {R with v:=v',bs:=R.bs.eraseIdx i,ab2:=R.ab2.eraseIdx i}:=
 {c0:=h0,c1:=G,c2:=O,c3:=h3,tg:=ht,fz:=hf,row:=hr
  len:=by
   show(R.ab2.eraseIdx i).length=(R.bs.eraseIdx i).length
   rw[List.length_eraseIdx,List.length_eraseIdx,h.len]
  k:=λj c z a1 a2=>by
   have a1':(R.bs.eraseIdx i)[j]?=some c:=a1
   have Eu:(R.ab2.eraseIdx i)[j]?=some z:=a2
   rw[List.getElem?_eraseIdx]at a1' Eu
   obtain⟨m,hm,q1,q2⟩:∃m,m≠i/\R.bs[m]?=some c/\R.ab2[m]?=some z:=by
    by_cases hji:j<i
    ·rw[af hji]at a1' Eu
     exact⟨j,by omega,a1',Eu⟩
    ·rw[ai hji]at a1' Eu
     exact⟨j+1,by omega,a1',Eu⟩
   have hcb:c≠b:=λq=>by
    subst q
    obtain⟨l1,r1⟩:=ν.1 e1
    obtain⟨l2,r2⟩:=ν.1 q1
    have hp:=cO.1 h.V
    rcases Nat.lt_or_gt_of_ne hm with g|g
    ·exact hp m i l2 l1 g (r2.trans r1.symm)
    ·exact hp i m l1 l2 g (r1.trans r2.symm)
   exact⟨(h.k m c z q1 q2).1.keep (D c (aH q1) hcb),(h.k m c z q1 q2).2⟩
  V:=List.Nodup.sublist (List.eraseIdx_sublist _ _) h.V
  ge:=h.ge,oP:=h.oP,vV:=h.vV
  cnt:=σ (List.Sublist.length_le (List.eraseIdx_sublist _ _)) h.cnt
  so:=List.Pairwise.sublist (List.eraseIdx_sublist _ _) h.so
  le:=λz hz=>h.le z (List.Sublist.subset (List.eraseIdx_sublist _ _) hz)}
def Gv (W:World)(R:df)(i j:Nat)(v:Value)(wr:World):Prop:=Below W.heap.size W wr/\wr.ownsRow W.heap.size 91 1 v ((R.bs.take j).eraseIdx i).length (((R.bs.take j).eraseIdx i).map mK)
theorem ry (h:RT B w ms aK R) (hp:RP B C M aK U S ab5 w) (e1:R.bs[i]?=some b) (e2:R.ab2[i]?=some x) (e3:(x.id:Int)=t) (hy:0<=y/\y<S.ws.length) (hn:x.n=1) {ab9 K':World->Prop} (hK:∀W,Kp (λj=>j=ms\/j∈R.bs) w W->ab9 W)
  (HG:∀W v',RT B W ms aK {R with v:=v',bs:=R.bs.eraseIdx i,ab2:=R.ab2.eraseIdx i}->ab9 W->Calls prog 24 #[.pointer (some ⟨aK,0,none⟩),.int .i64 y,bz x.o.1 x.o.2] W λev w'=>(∃r:Int,ev=.returned (.int .i64 r))/\RT B w' ms aK {R with v:=v',bs:=R.bs.eraseIdx i,ab2:=R.ab2.eraseIdx i}/\K' w'):
  Calls prog 110 #[.pointer (some ⟨ms,0,none⟩),.int .i64 y,.int .i64 t] w λev w'=>ev=.returned (.int .i64 0)/\∃v',RT B w' ms aK {R with v:=v',bs:=R.bs.eraseIdx i,ab2:=R.ab2.eraseIdx i}/\K' w':=by
 have HF:=I (l6 h t)
 rw[h.fn e1 e2 e3]at HF
 simp only[Option.map_some]at HF
 have HW:=I (hp.worker y)
 rw[aM hy]at HW
 have c0:=h.c0
 have r0:=hp.m.c0
 obtain⟨k1,k2⟩:=h.k i b x e1 e2
 have hx:=h.le x (aH e2)
 have c4:=k1.c4
 have f4:=k1.fz 4
 rw[hn]at c4
 have hw:IntKind.i64.wrap (((1:Nat):Int)-1)=0:=rfl
 have Fh:(w.setCell ⟨b,4,none⟩ (.int .i64 0)).cell? ⟨b,4,none⟩=some (.int .i64 0):=fK c4
 obtain⟨i0,eO,hz0,hz1,hz2⟩:=aY xc
 have HI:=I eO
 have HZ0:=I hz0
 have eI:=I hz1
 have eJ:=I hz2
 have X9:b≠ms:=λq=>k1.tg.ne h.tg (by decide) q
 have GA:=I X9
 have HH:=I h
 have Dn:=I e1
 have kg:=I e2
 have Ev:=I e3
 have HK:=I hK
 have I_:=I HG
 clear h hp e1 e2 e3 k1 k2 hx hn hy eO hz0 hz1 hz2 X9 hK HG
 unfold bz at*
 go_enter func110,ntmps110
 go_wp2_with fail
 refine(Z HF).mono ?_
 rintro ev w1⟨rfl,rfl⟩
 clear HF
 go_wp2_with fail
 refine(Z HW).mono ?_
 rintro ev w2⟨rfl,rfl⟩
 clear HW
 go_wp2_with fail
 have hms:=(Z HH).tg.lt
 have hne0:∀j,j≠b->(w2.setCell ⟨b,4,none⟩ (.int .i64 0)).heap[j]?=w2.heap[j]?:=λj E=>μ _ _ _ _ E
 have hsz0:(w2.setCell ⟨b,4,none⟩ (.int .i64 0)).heap.size=w2.heap.size:=by simp
 have hK0:Kp (λj=>j=ms\/j∈R.bs) w2 (w2.setCell ⟨b,4,none⟩ (.int .i64 0)):=Kp.set w2 b 4 _ (δ (aH (Z Dn)))
 have Ew:∀(j c:Nat) (z:gy),R.bs[j]?=some c->R.ab2[j]?=some z->(w2.setCell ⟨b,4,none⟩ (.int .i64 0)).cell? ⟨c,0,none⟩=some (.int .i64 z.id)/\c<w2.heap.size:=λj c z q1 q2 =>
  ⟨(bu (by simp)).trans ((Z HH).k j c z q1 q2).1.c0,((Z HH).k j c z q1 q2).1.tg.lt⟩
 have ho:(w2.setCell ⟨b,4,none⟩ (.int .i64 0)).cell? ⟨b,1,none⟩=some (.int .i64 x.o.1)/\(w2.setCell ⟨b,4,none⟩ (.int .i64 0)).cell? ⟨b,2,none⟩=some (.int .i64 x.o.2):=by
  obtain⟨k1,_⟩:=(Z HH).k i b x (Z Dn) (Z kg)
  exact⟨(bu (by simp)).trans k1.c1,(bu (by simp)).trans k1.c2⟩
 have hcm:=λo=>(η (w:=w2) (a:=⟨ms,o,none⟩) (hne0 ms (cV (Z GA))))
 have hfm:∀o,(w2.setCell ⟨b,4,none⟩ (.int .i64 0)).frozen? ⟨ms,o,none⟩=false:=λo=>(π (w:=w2) (a:=⟨ms,o,none⟩) (hne0 ms (cV (Z GA)))).trans ((Z HH).fz o)
 have hrow:(w2.setCell ⟨b,4,none⟩ (.int .i64 0)).ownsRow B 91 1 R.v R.bs.length (R.bs.map mK):=aI (Z HH).row (λg hg=>hne0 g (λq=>by
  obtain⟨k1,_⟩:=(Z HH).k i b x (Z Dn) (Z kg)
  exact(ay (Z HH).row hg).1.ne k1.tg (by decide) q))
 have YF:=(hcm 0).trans (Z HH).c0
 have su:=(hcm 1).trans (Z HH).c1
 have hm2:=(hcm 2).trans (Z HH).c2
 have hm3:=(hcm 3).trans (Z HH).c3
 have nt:Tag (w2.setCell ⟨b,4,none⟩ (.int .i64 0)) ms 90:=(Z HH).tg.set _ _
 clear c0 r0 c4 f4 Fh hcm hw
 generalize w2.setCell ⟨b,4,none⟩ (.int .i64 0)=W0 at*
 obtain⟨p,cp,hv⟩:=aX hrow
 rw[hv]at hm2 hrow
 have Yb:=I hrow
 have HV:=I hv
 have Jl:=I Ew
 have Gm:=I hne0
 have HO:=I ho
 have Jm:=I hfm
 have HM:=I (And.intro YF (And.intro su hm3))
 have xQ:=I hm2
 have HT:=I nt
 have Zp:=I hK0
 have hcnt:=(Z HH).cnt
 have GD:ms<W0.heap.size:=by rw[hsz0];exact hms
 have Ko:=I GD
 have sZ:=I hsz0
 clear hms Ew hne0 ho hfm YF su hm2 hm3 nt hv hrow hK0 hsz0
 have HLEN:=I (show R.bs.length=R.bs.length from rfl)
 go_loopw [9,10] (λv a wr=>∃j:Nat,a=.int .i64 j/\j<=R.bs.length/\Hid (Gv W0 R i j v wr)) (λ_ a _=>R.bs.length-(intOf a).toNat)
 case atStart=>exact⟨0,rfl,Γ _,I ⟨γ _ _,by simp only[List.take_zero,List.eraseIdx_nil,List.map_nil,aA];exact Ξ _ _ _ _⟩⟩
 case round =>
  obtain⟨j,rfl,E,hE⟩:=hrel
  have Cn:(0:Int)<=j:=by omega
  have hwj:IntKind.i64.wrap ((j:Int)+1)=(j:Int)+1:=aB _ (by omega)
  have y2:=((Z hE).1.cell (p:=⟨ms,2,none⟩) (Z Ko)).trans (Z xQ)
  by_cases pS:j<R.bs.length
  ·have qm:(j:Int)<R.bs.length:=by omega
   obtain⟨c,z,q1,q2,q3,q4⟩:=(Z HH).at pS
   obtain⟨g,rfl,_⟩:∃g,p=some ⟨g,0,none⟩/\True:=by
    obtain⟨g,c',hg,_⟩:=(Z Yb).form (by omega)
    simp only[ψ]at hg
    exact⟨g,hg.1,trivial⟩
   have x0:=(Z Yb).cellAt j (by simp;omega)
   rw[dy,q1]at x0
   simp only[Option.map_some,mK]at x0
   have sD:g<W0.heap.size:=((Z Yb).lt g rfl).2
   have xr:=((Z hE).1.cell (p:=⟨g,j,none⟩) sD).trans x0
   obtain⟨u0,eR⟩:=(Z Jl) j c z q1 q2
   have lu:=((Z hE).1.cell (p:=⟨c,0,none⟩) (by show c<W0.heap.size;have:=Z sZ;omega)).trans u0
   have XO:=I q1
   have HQ2:=I q2
   clear q1 q2 q3 q4 x0 u0
   by_cases hji:j=i
   ·have htz:(z.id:Int)=t:=by
     subst hji
     have a1:=(Z HQ2).symm.trans (Z kg)
     rw[ah a1]
     exact Z Ev
    have d1:((z.id:Int)!=t)=false:=by simp[htz]
    have d2:decide ((z.id:Int)=t)=true:=by simp[htz]
    have d3:((z.id:Int)==t)=true:=by simp[htz]
    have Z1:Hid (Gv W0 R i (j+1) u9 wr):=⟨(Z hE).1,by
     rw[nG R.bs i j c (Z XO),af hji]
     exact(Z hE).2⟩
    clear hE hji htz
    go_wp2_with fail
    go_roundw
    case rel=>exact⟨j+1,by go_num,by omega,Z1⟩
    case measure=>simp[intOf];omega
   ·have htz:(z.id:Int)≠t:=λq=>hji ((Z HH).uniq (Z HQ2) (Z kg) (by have:=Z Ev;omega))
    have d1:((z.id:Int)!=t)=true:=by simpa using htz
    have d2:decide ((z.id:Int)=t)=false:=by simpa using htz
    have d3:((z.id:Int)==t)=false:=by simpa using htz
    have F1:=χ (γ wr.heap.size wr) (.cells #[.pointer (some ⟨c,0,none⟩)] 91)
    have HU:=I (aN (Z hE).2 F1)
    have Tb:=I (bW (Z hE).1 F1)
    have hel:((R.bs.take j).eraseIdx i).length<=1000000:=σ (List.Sublist.length_le (List.eraseIdx_sublist _ _)) (by rw[cI];omega)
    have HST:=I (nG R.bs i j c (Z XO))
    rw[ai hji]at HST
    have Ki:=I (Z hE).2
    generalize jG:((R.bs.take j).eraseIdx i)=kZ at*
    clear hE hji htz F1 jG
    go_wp2_with (at_builtin;refine fF _ rfl (.tmp 60) (.tmp 68) 88 rfl W0.heap.size 91 i0 (.pointer none) 1 8 underlying88 (Z HI) (Z HZ0) (Z eI) (Z eJ) rfl (by decide) _ _ _ rfl (Z HU) ⟨wr.heap.size,0,none⟩ 1 1 [.pointer (some ⟨c,0,none⟩)] (by simp[Act.eval]) rfl (by intro j u E;match j,E with|0,E=>(simp at E;subst E;simp[Addr.add])) (by intro u hu;simp at hu;subst hu;rfl) (by omega) (by unfold maxLen;omega) (by omega) (Z Tb).size _ rfl ?_;intro g5 c5 w5 o5 q5 kE hg6)
    have b5:Below W0.heap.size W0 w5:=(Z Tb).grown q5 (Z Tb).size (bL (Z HU))
    have Z1:Hid (Gv W0 R i (j+1) (.slice (some ⟨g5,0,none⟩) (kZ.length+1) c5) w5):=⟨b5,by
     rw[Z HST,φ,cU]
     exact o5⟩
    clear b5 o5 q5 kE hg6 HU Tb Ki
    go_wp2_with fail
    go_roundw
    case rel=>exact⟨j+1,by go_num,by omega,Z1⟩
    case measure=>simp[intOf];omega
  ·have kn:¬(j:Int)<R.bs.length:=by omega
   obtain⟨pz,oE⟩:=Z hE
   rw[show j=R.bs.length from by omega,b_]at oE
   obtain⟨jg,nO,rfl⟩:=aX oE
   have hgn:∀g,(Value.slice jg (R.bs.eraseIdx i).length nO).ownBlock=some g->g≠ms:=λg hg q=>by
    have G:=bL oE g hg
    have O:=Z Ko
    omega
   have hcs:=λo=>pz.cell (p:=⟨ms,o,none⟩) (Z Ko)
   have m0:=(hcs 0).trans (Z HM).1
   have m1:=(hcs 1).trans (Z HM).2.1
   have m3:=(hcs 3).trans (Z HM).2.2
   have fr:∀o,wr.frozen? ⟨ms,o,none⟩=false:=λo=>(pz.frozen (p:=⟨ms,o,none⟩) (Z Ko)).trans (Z Jm o)
   have f2:=fr 2
   have hbl:b<W0.heap.size:=by
    have:=((Z HH).k i b x (Z Dn) (Z kg)).1.tg.lt
    have:=Z sZ
    omega
   have p1:=(pz.cell (p:=⟨b,1,none⟩) hbl).trans (Z HO).1
   have p2:=(pz.cell (p:=⟨b,2,none⟩) hbl).trans (Z HO).2
   have htw:Tag wr ms 90:=(Z HT).b pz
   have hBW:B<=W0.heap.size:=by
    have:=(Z HH).ge
    have:=Z Ko
    omega
   have hw:∀j,j≠ms->(wr.setCell ⟨ms,2,none⟩ (Value.slice jg (R.bs.eraseIdx i).length nO)).heap[j]?=wr.heap[j]?:=λj E=>μ _ _ _ _ E
   have hR:=(Z HH).less (w':=wr.setCell ⟨ms,2,none⟩ (Value.slice jg (R.bs.eraseIdx i).length nO)) (v':=(Value.slice jg (R.bs.eraseIdx i).length nO)) (Z Dn) ((bu (by simp)).trans m0) ((bu (by simp)).trans m1) (fK y2) ((bu (by simp)).trans m3) (htw.set _ _) (λo=>(Ψ _ _ _ _).trans (fr o))
    (aI (ia oE hBW) (λg hg=>hw g (hgn g hg)))
    (λk D hkb=>by
     obtain⟨q,hq⟩:=List.mem_iff_getElem?.1 D
     obtain⟨c,z,a1,a2,a3,a4⟩:=(Z HH).at (ν.1 hq).1
     rw[hq]at a1
     obtain rfl:=ah a1
     have hkm:k≠ms:=λq=>a3.tg.ne (Z HH).tg (by decide) q
     exact(hw k hkm).trans ((pz.block k (by have:=a3.tg.lt;have:=Z sZ;omega)).trans (Z Gm k hkb)))
   have Jq:Kp (λj=>j=ms\/j∈R.bs) w2 (wr.setCell ⟨ms,2,none⟩ (Value.slice jg (R.bs.eraseIdx i).length nO)):=((Z Zp).trans (Kp.below pz)).trans (Kp.set wr ms 2 _ (ε rfl))
   have z0:=(bu (a:=⟨ms,2,none⟩) (v:=(Value.slice jg (R.bs.eraseIdx i).length nO)) (by simp)).trans m0
   have hb2:b≠ms:=Z GA
   have z1:=(bu (a:=⟨ms,2,none⟩) (v:=(Value.slice jg (R.bs.eraseIdx i).length nO)) (b:=⟨b,1,none⟩) (by simp)).trans p1
   have z2:=(bu (a:=⟨ms,2,none⟩) (v:=(Value.slice jg (R.bs.eraseIdx i).length nO)) (b:=⟨b,2,none⟩) (by simp)).trans p2
   have YV:=I ((Z I_) ((wr.setCell ⟨ms,2,none⟩ (Value.slice jg (R.bs.eraseIdx i).length nO)).drew) (Value.slice jg (R.bs.eraseIdx i).length nO) (hR.b (dw _)) ((Z HK) _ (Jq.trans (Kp.below (dw _)))))
   clear hw hR Jq hgn hcs m0 m1 m3 fr p1 p2 htw hBW hbl pz oE hE I_ HK Gm Jl Yb HO Jm HM hb2
   generalize(R.bs.eraseIdx i).length=nE at*
   go_upto_region 17 with(fail)
   go_region_with ((go_at_call 24;refine(Z YV).mono ?_;rintro ev w5⟨⟨r,rfl⟩,R5,K5⟩))
   all_goals
    have mU:=I R5
    have AW:=I K5
    clear R5 K5 YV z0 z1 z2
    go_wp2
    go_ret
    exact⟨rfl,_,Z mU,Z AW⟩
end
end Pl
end Go.Proofs.YtcbmfakjfoggaaaGreatDoor
