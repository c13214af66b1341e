/- H15 -/
import Derived.Test.YtcbmfakjfoggaaaGreatDoorA0
import Derived.Test.YtcbmfakjfoggaaaGreatDoorH13
import Derived.Test.YtcbmfakjfoggaaaGreatDoorH14
import Derived.Test.YtcbmfakjfoggaaaGreatDoorH12
set_option maxHeartbeats 0
set_option maxRecDepth 100000
namespace Go.Proofs.YtcbmfakjfoggaaaGreatDoor
open Go.Maps _root_.Go.Proofs.Tryz Go.RowKit
namespace Zn
open Fr Bd
variable {w w':World}{z:Nat}{hi lw mn:Int}{nb:Nat->Nat}{V:Nat->Nd}{fr:Nat->List Nat}
def fA (o mn:Int)(u:Bool)(d:Nd):Nat:=match fit o d.aca with
 |none=>0
 |some x=>if u=false/\fS (gV o x d.aca)<mn then 1 else 2
def mO (o:Int)(d:Nd):Int:=match fit o d.aca with
 |none=>0
 |some x=>x.1
def kC (o:Int)(d:Nd):Nd:=match fit o d.aca with
 |none=>d
 |some x=>⟨d.N,gV o x d.aca,ins (x.1,o) d.T⟩
theorem Au {o:Int}{d:Nd}(h0:0<=o)(h:d.ok):(kC o d).ok:=by
 unfold kC;split
 ·exact h
 ·rename_i x hx;exact⟨h.1,h.2.1,Hc h0 h.2.2 (iQ hx).1 (iQ hx).2⟩
theorem EI (b:Nat)(d:Nd)(o:Int)(w:World)(h:RB w b d.N d.aca d.T)(eH:d.ok)(h0:0<=o):
  (fA o 0 true d=0/\fit o d.aca=none/\Calls prog 237 #[ptr b,.int .i64 o] w λev w'=>ev=.returned (.tuple #[fJ 0 0,.bool false])/\Below w.heap.size w w') \/
  (∃x,fit o d.aca=some x/\Calls prog 237 #[ptr b,.int .i64 o] w λev w'=>ev=.returned (.tuple #[fJ (mO o d) o,.bool true])/\RB w' b (kC o d).N (kC o d).aca (kC o d).T/\Kept b b w w'):=by
 cases hf:fit o d.aca with
 |none=>exact ε ⟨by simp[fA,hf],rfl,zV b d.N d.aca d.T o w h eH.2.2 eH.2.1 hf⟩
 |some x =>
  refine δ ⟨x,rfl,?_⟩;have e1:mO o d=x.1:=by simp[mO,hf]
  have e2:kC o d=⟨d.N,gV o x d.aca,ins (x.1,o) d.T⟩:=by simp[kC,hf]
  rw[e1,e2];exact qV b d.N d.aca d.T o x w h eH.2.2 eH.2.1 h0 hf
theorem RZ.swap {k:Nat}(h:RZ w z mn lw hi k nb V fr){x:Nat}(hx:x<k){c:Nat}(K:∀i,i<k->nb i≠c){d:Nd}(hd:RB w c d.N d.aca d.T)(eH:d.ok){g cp:Nat}(hg:w.cell? ⟨z,5,none⟩=some (.slice (some ⟨g,0,none⟩) k cp)):RZ (w.setCell ⟨g,x,none⟩ (ptr c)) z mn lw hi k (up nb x c) (up V x d) fr:=by
 have hl:=h.tg.lt;obtain⟨g',cp',e1,o1⟩:=h.cn;rw[hg]at e1;simp only[τ,ψ,av,bI]at e1;obtain⟨rfl,_,rfl⟩:=e1;have ht:Tag w g 253:=by
  rcases o1.2 with⟨h',_⟩|⟨g',cap',cur,h',_,qs,_⟩
  ·cases h'
  ·simp only[ψ,τ,av]at h';obtain⟨⟨rfl,_⟩,_⟩:=h';exact⟨cur,_,qs⟩
 have D:=bA (g:=g) w x (ptr c);have hz:=h.tg.ne ht (by decide);obtain⟨g2,c2,rows,e2,o2,r2⟩:=h.cf;refine⟨(D.cell (p:=⟨z,2,none⟩) hl hz hz).trans h.m2,(D.cell (p:=⟨z,3,none⟩) hl hz hz).trans h.m3,(D.cell (p:=⟨z,4,none⟩) hl hz hz).trans h.m4,⟨g,cp,(D.cell (p:=⟨z,5,none⟩) hl hz hz).trans hg,?_⟩,⟨g2,c2,rows,(D.cell (p:=⟨z,6,none⟩) hl hz hz).trans e2,fM o2 D ht (by decide),λi hi=>?_⟩,h.tg.keep D hz,λi hi=>?_,λi hi=>?_,λi j hi E Ec=>?_⟩
 ·have:=(o1.stored x (ptr c)).1;rw[Hw]at this;exact this
 ·obtain⟨h',d,e3,o3⟩:=r2 i hi;exact⟨h',d,e3,fM o3 D ht (by decide)⟩
 ·by_cases Mr:i=x
  ·subst Mr;rw[gJ,gJ];exact hd.keep D (hd.tg.ne ht (by decide)) ht (by decide)
  ·rw[fj _ _ Mr,fj _ _ Mr];exact(h.rb i hi).keep D ((h.rb i hi).tg.ne ht (by decide)) ht (by decide)
 ·by_cases Mr:i=x
  ·subst Mr;rw[gJ];exact eH
  ·rw[fj _ _ Mr];exact h.ok i hi
 ·by_cases Mr:i=x
  ·subst Mr;rw[gJ,fj _ _ (cV Ec)];exact(K j E).symm
  ·by_cases Mt:j=x
   ·subst Mt;rw[gJ,fj _ _ Ec];exact K i hi
   ·rw[fj _ _ Mr,fj _ _ Mt];exact h.ne i j hi E Ec
theorem RZ.from {k:Nat}(h:RZ w z mn lw hi k nb V fr){x:Nat}(hx:x<k){j:Nat}(E:j<(fr x).length):∃g c h' d,w.cell? ⟨z,6,none⟩=some (.slice (some ⟨g,0,none⟩) k c)/\g<w.heap.size/\w.cell? ⟨g,x,none⟩=some (.slice (some ⟨h',0,none⟩) (fr x).length d)/\h'<w.heap.size/\w.cell? ⟨h',j,none⟩=some (.int .i64 ((fr x)[j]:Nat)):=by
 obtain⟨g,c,rows,e1,o1,r1⟩:=h.cf;obtain⟨h',d,e2,o2⟩:=r1 x hx;refine⟨g,c,h',d,e1,(o1.lt g rfl).2,(o1.cellAt x (by omega)).trans e2,(o2.lt h' rfl).2,(o2.cellAt j (by omega)).trans ?_⟩;simp[dX,E]
structure PB (w:World)(b:Nat):Prop where
 c0:w.cell? ⟨b,0,none⟩=some (.int .i64 0)
 c1:w.cell? ⟨b,1,none⟩=some (.int .i64 0)
 c2:w.cell? ⟨b,2,none⟩=some (.int .i64 0)
 f:∀o,w.frozen? ⟨b,o,none⟩=false
 lt:b<w.heap.size
 tg:Tag w b 293
theorem Av (w:World):PB (w.alloc (CA 0 0 0)) w.heap.size:=⟨θ w _ 293 0,θ w _ 293 1,θ w _ 293 2,λo=>by simp[CA],by simp,bB _ _ _⟩
theorem PB.b {b:Nat}(h:PB w b)(J:Below w.heap.size w w'):PB w' b :=
 ⟨(J.cell (p:=⟨b,0,none⟩) h.lt).trans h.c0,(J.cell (p:=⟨b,1,none⟩) h.lt).trans h.c1,(J.cell (p:=⟨b,2,none⟩) h.lt).trans h.c2,λo=>(J.frozen (p:=⟨b,o,none⟩) h.lt).trans (h.f o),ι h.lt J.size,h.tg.b J⟩
theorem PB.k {b A:Nat}(h:PB w b)(D:Kept A A w w')(hne:b≠A):PB w' b :=
 ⟨(D.cell (p:=⟨b,0,none⟩) h.lt hne hne).trans h.c0,(D.cell (p:=⟨b,1,none⟩) h.lt hne hne).trans h.c1,(D.cell (p:=⟨b,2,none⟩) h.lt hne hne).trans h.c2,λo=>(π (w:=w) (a:=⟨b,o,none⟩) (D.block b h.lt hne hne)).trans (h.f o),ι h.lt D.size,h.tg.keep D hne⟩
theorem qE {α : Type}{p : α->Bool}:∀{L:List α} {j:Nat} (E:j<L.length),(∀j' (hj':j'<L.length),j'<j->p L[j']=false)->p L[j]=true->L.find? p=some L[j]
 |[],_,E,_,_=>by simp at E
 |x::l,0,_,_,h=>by simp at h;simp[h]
 |x::l,j+1,E,G,O=>by
  have hx:=G 0 (by simp) (by omega);simp only[fH]at hx;rw[List.find?_cons,hx];simp only[List.getElem_cons_succ]at O ⊢;exact qE (by simpa using E) (λj' hj' hlt=>by have:=G (j'+1) (by simpa using hj') (by omega);simpa using this) O
theorem aas {n:Nat}(h:Below n w w'){b:Nat}(J:n<=b)(x a o:Int):Below n w (((w'.setCell ⟨b,0,none⟩ (.int .i64 x)).setCell ⟨b,1,none⟩ (.int .i64 a)).setCell ⟨b,2,none⟩ (.int .i64 o)):=
 ((h.setCell J _).setCell J _).setCell J _
end Zn
namespace Fr
theorem CD (k:Int)(w:World)(h0:0<=k)(G:k<=6):Calls prog 220 #[.int .i64 k] w λev w'=>ev=.returned (.tuple #[.int .i64 (pw k),.nilIface])/\w'=w:=by
 rcases orders k h0 G with rfl|rfl|rfl|rfl|rfl|rfl|rfl
 all_goals
  clear h0 G;go_enter func220,ntmps220;go_wp2;go_ret2;exact⟨rfl,rfl⟩
theorem Ih (k:Int)(w:World)(e:Nat->Addr)(he:kO w e)(h:k<0\/6<k):Calls prog 220 #[.int .i64 k] w λev w'=>ev=.returned (.tuple #[.int .i64 0,bc (e 1)])/\Below w.heap.size w w':=by
 have hB:=he.bound;clear he;by_cases c:k<0
 ·have c1:decide (0<=k)=false:=by simp;omega
  clear h;go_enter func220,ntmps220;go_wp2;go_region
  go_wp2;go_ret2;exact⟨rfl,(γ _ _).drew⟩
 ·have c1:0<=k:=by omega
  have c2:decide (k<=6)=false:=by simp;omega
  clear h c;go_enter func220,ntmps220;go_wp2;go_region
  go_wp2;go_ret2;exact⟨rfl,(γ _ _).drew⟩
end Fr
namespace Bd
open Fr
theorem CE {x:Bl}:∀{l:List Bl},(∀y∈l,y.1≠x.1)->fS (ins x l)=pw x.2+fS l
 |[],_=>by simp[ins,fS]
 |y::l,h=>by
  have G:=h y (bh ..);unfold ins;split
  ·simp[fS]
  ·rw[ai (cV G)];have:=CE (x:=x) (l:=l) (λz hz=>h z (aD _ hz));simp only[fS];omega
theorem tS {N:Int}{T:List Bl}{a k:Int}(k0:0<=k):∀(n:Nat) (j:Int) (ab3:List Bl),n=(j-k).toNat->k<=j->jL N ab3 T (a,j)->fS (iz n a j ab3)+pw k=fS ab3+pw j
 |0,j,ab3,hn,E,_=>by
  have:j=k:=by omega
  subst this;rfl
 |n+1,j,ab3,hn,E,h=>by
  unfold iz;have G:=h.Cj (by omega:1<=j);have O:=tS k0 n (j-1) _ (by omega) (by omega) G;have h3:=CE (x:=(a+pw (j-1),j-1)) (l:=ab3) (λy hy e=>by
   have h4:=h.wW hy;have h5:=iJ (j-1) (by omega);rw[show j-1+1=j by omega]at h5;have:=cy (j-1);simp only at h4 e;omega)
  have h5:=iJ (j-1) (by omega);rw[show j-1+1=j by omega]at h5;simp only at h3;omega
theorem tU {N:Int}{aca T:List Bl}{k:Int}{x:Bl}(k0:0<=k)(h:Inv N aca T)(hx:x∈aca)(D:k<=x.2):fS (gV k x aca)+pw k=fS aca:=by
 have G:=tS k0 _ x.2 (del x.1 aca) rfl D (h.zL hx);have O:=Cs h.sF hx;show fS (iz _ _ _ _)+_=_;omega
end Bd
namespace Dz
open Fr Bd Zn
def o9 (o:Int)(d:Nd):Bool:=d.aca.any λy=>decide (o<=y.2)
def xC (o mn:Int)(d:Nd):Bool:=decide (mn<=fS d.aca-pw o)
def okB (o mn:Int)(u:Bool)(d:Nd):Bool:=o9 o d&&(u||xC o mn d)
theorem xD {o:Int}{d:Nd}:o9 o d=true↔fit o d.aca≠none:=by
 unfold o9;rw[Ne,xj];simp only[gG,dh];constructor
 ·rintro⟨x,hx,h⟩ hh;have:=hh x hx;omega
 ·intro h;refine dx λhh=>h λx hx=>?_;exact Int.not_le.1 λh'=>hh ⟨x,hx,h'⟩
theorem Aw {o mn:Int}{u:Bool}{d:Nd}(h0:0<=o)(h:d.ok):okB o mn u d=(fA o mn u d==2)/\(fA o mn u d≠2->o9 o d=(fA o mn u d==1)):=by
 cases hf:fit o d.aca with
 |none =>
  have G:o9 o d=false:=by
   cases J:o9 o d
   ·rfl
   ·exact absurd hf (xD.1 J)
  have O:fA o mn u d=0:=by simp[fA,hf]
  rw[O];exact⟨by simp[okB,G],λ_=>by rw[G];rfl⟩
 |some x =>
  have G:o9 o d=true:=xD.2 (by rw[hf];simp);have h3:=tU h0 h.2.2 (iQ hf).1 (iQ hf).2;have O:fA o mn u d=if u=false/\fS (gV o x d.aca)<mn then 1 else 2:=by simp[fA,hf]
  rw[O];by_cases K:u=false/\fS (gV o x d.aca)<mn
  ·rw[af K];have h4:xC o mn d=false:=by unfold xC;simp;omega
   exact⟨by simp[okB,G,h4,K.1],λ_=>by rw[G];rfl⟩
  ·rw[ai K];refine⟨?_,λhh=>absurd rfl hh⟩;cases u with
   |true=>simp[okB,G]
   |false =>
    have h4:xC o mn d=true:=by unfold xC;simp;simp at K;omega
    simp[okB,G,h4]
theorem Ii (ob:Nat)(a k o:Int)(w:World)(K:w.cell? ⟨ob,0,none⟩=some (.int .i64 o))(hl:ob<w.heap.size):
  Calls prog 222 (#[fJ a k] ++ #[.pointer (some ⟨ob,0,none⟩)]) w λev w'=>ev=.returned (.bool (decide (o<=k)))/\Below w.heap.size w w':=by
 have hc2:(w.alloc (bV a k)).cell? ⟨ob,0,none⟩=some (.int .i64 o):=((χ (γ _ _) _).cell (p:=⟨ob,0,none⟩) hl).trans K;clear K;simp only[dQ,cJ,aT];go_enter func222,ntmps222;go_wp2;go_ret;exact⟨rfl,χ (γ _ _) _⟩
theorem aat:∀args w,(callFunc 222 args).run prog w=.ok (.enter 222 args) w:=fy func222 (by kernel_rfl) rfl
theorem aau:∀args w,(callFunc 223 args).run prog w=.ok (.enter 223 args) w:=fy func223 (by kernel_rfl) rfl
theorem aav:∀args w,(callFunc 228 args).run prog w=.ok (.enter 228 args) w:=fy func228 (by kernel_rfl) rfl
theorem EJ (L:List Bl)(o:Int):(List.range L.length).any (λi=>decide (o<=(L.getD i (0,0)).2))=L.any λy=>decide (o<=y.2):=by
 rw[Bool.eq_iff_iff];simp only[gG,fw,dh];constructor
 ·rintro⟨i,hi,h⟩;rw[getD_lt hi]at h;exact⟨_,aO hi,h⟩
 ·rintro⟨y,hy,h⟩;obtain⟨i,hi,rfl⟩:=bU hy;exact⟨i,hi,by rw[getD_lt hi];exact h⟩
theorem Ij (o:Int)(ob:Nat)(v:Value)(L:List Bl)(B:Nat)(w:World)(hrow:w.ownsRow B 291 2 v L.length (flat L))(hnil:L=[]->v=.slice none 0 0)(hlen:L.length<=256)(K:w.cell? ⟨ob,0,none⟩=some (.int .i64 o))(hl:ob<w.heap.size):
  Calls prog 224 #[v,.func (.func 222) #[] #[.pointer (some ⟨ob,0,none⟩)]] w λev w'=>ev=.returned (.bool (L.any λy=>decide (o<=y.2)))/\Below w.heap.size w w':=by
 have hv:∃q c,v=.slice q L.length c/\(L≠[]->∃g',q=some ⟨g',0,none⟩/\Row w g' L):=by
  by_cases hL:L=[]
  ·exact⟨none,0,by rw[hnil hL,hL];rfl,λh=>absurd hL h⟩
  ·obtain⟨g,cap,rfl,_,_,_,hr⟩:=oQ hrow hL;exact⟨_,_,rfl,λ_=>⟨g,rfl,hr⟩⟩
 obtain⟨q,c,rfl,hr⟩:=hv;rw[<- EJ];exact Ab q L L.length c 222 #[.pointer (some ⟨ob,0,none⟩)] _ aat w rfl hr (by omega) (λi _ W hW=>(Ii ob _ _ o W ((hW.cell (p:=⟨ob,0,none⟩) hl).trans K) (ι hl hW.size)).mono λe w' hh=>⟨hh.1,bW hW hh.2⟩)
theorem CF (z:Nat)(mn lw hi:Int)(k:Nat)(nb fm F:Nat->Nat)(V:Nat->Nd)(fr:Nat->List Nat)(x:Nat)(o:Int)(zb wb ob:Nat)(w:World)(h:DZ w z mn lw hi k nb fm F V fr)(hx:x<k)
  (cz:w.cell? ⟨zb,0,none⟩=some (ptr z))(cw:w.cell? ⟨wb,0,none⟩=some (.func (.func 222) #[] #[.pointer (some ⟨ob,0,none⟩)]))(co:w.cell? ⟨ob,0,none⟩=some (.int .i64 o)):
  Calls prog 223 (#[.int .i64 x] ++ #[.pointer (some ⟨zb,0,none⟩),.pointer (some ⟨wb,0,none⟩)]) w λev w'=>ev=.returned (.bool (o9 o (V x)))/\Below w.heap.size w w':=by
 obtain⟨g,c,c1,_,c2⟩:=h.node hx;have sN:(x:Int)<k:=by omega
 have hx0:(0:Int)<=x:=by omega
 have hlen:=(oZ (h.ok x hx)).1;have HF:=I (λw1 (J:Below w.heap.size w w1)=>Cm _ _ _ _ _ _ w1 ((h.bd x hx).b J));have lo:=aa w _ co;have lw':=aa w _ cw;simp only at lo lw';have HA:=I (λw1 (J:Below w.heap.size w w1) v B hr hn=>Ij o ob v (V x).aca B w1 hr hn hlen ((J.cell (p:=⟨ob,0,none⟩) lo).trans co) (ι lo J.size));have HW:=I (λw1 (J:Below w.heap.size w w1)=>(J.cell (p:=⟨wb,0,none⟩) lw').trans cw);clear h;simp only[dQ,cJ,aT];unfold o9;generalize(V x).aca.any (λy=>decide (o<=y.2))=d at*;unfold ptr at*;have tk:True:=trivial;go_enter func223,ntmps223;go_wp2_with fail;first
 |(go_region_law (first
  |(have _t:=tk;go_simp;go_at_call 225;refine((Z HF) _ (dw w)).mono ?_;rintro ev w2⟨v,rfl,hr,hn,b2⟩;have k2:Below w.heap.size w w2:=bd b2;have cw2:=(Z HW) w2 k2;clear tk)
  |(go_simp;go_at_call 224;refine((Z HA) w2 k2 v _ hr hn).mono ?_;rintro ev w3⟨rfl,b3⟩;have k3:=bW k2 b3)))
 |skip
 all_goals
  go_wp2;go_ret;exact⟨rfl,k3⟩
end Dz
namespace Dz
open Fr Bd Zn
variable {w w':World}{A B:Nat}{t:TypeId}
theorem Mu (z:Nat)(mn lw hi:Int)(k:Nat)(nb fm F:Nat->Nat)(V:Nat->Nd)(fr:Nat->List Nat)(x:Nat)(o:Int)(zb sb:Nat)(w:World)(h:DZ w z mn lw hi k nb fm F V fr)(hx:x<k)(h0:0<=o)(h6:o<=6)
  (cz:w.cell? ⟨zb,0,none⟩=some (ptr z))(cs:w.cell? ⟨sb,0,none⟩=some (.int .i64 (pw o))):
  Calls prog 226 (#[.int .i64 x] ++ #[.pointer (some ⟨zb,0,none⟩),.pointer (some ⟨sb,0,none⟩)]) w λev w'=>ev=.returned (.bool (xC o mn (V x)))/\Below w.heap.size w w':=by
 obtain⟨g,c,c1,hg,c2⟩:=h.node hx;have sN:(x:Int)<k:=by omega
 have hx0:(0:Int)<=x:=by omega
 have hz0:=h.m0;have hzl:=h.lt;have kn:=oZ (h.ok x hx);have Gn:=qX kn.2.2;have hpl:fS (V x).aca<=16384:=by have:=kn.1;omega
 have hp0:=Gn.1;have hs0:=cy o;have hs1:=lB o h0 h6;have HF:=I (λw1 (J:Below w.heap.size w w1)=>xy _ _ _ _ _ _ w1 ((h.bd x hx).b J));have lz:=aa w _ cz;have ls:=aa w _ cs;simp only at lz ls;unfold xC;clear h kn Gn h0 h6;simp only[dQ,cJ,aT,Array.append_empty]at*;unfold ptr at*;generalize fS (V x).aca=pf at*;generalize pw o=s at*;have hwr:=I (aB (pf-s) (by omega));have KM:=I (λw1 (J:Below w.heap.size w w1)=>show w1.cell? ⟨zb,0,none⟩=some (.pointer (some ⟨z,0,none⟩))/\w1.cell? ⟨z,3,none⟩=some (.slice (some ⟨g,0,none⟩) k c)/\w1.cell? ⟨g,x,none⟩=some (.pointer (some ⟨nb x,0,none⟩))/\w1.cell? ⟨sb,0,none⟩=some (.int .i64 s)/\w1.cell? ⟨z,0,none⟩=some (.int .i64 mn)from
  ⟨(J.cell (p:=⟨zb,0,none⟩) lz).trans cz,(J.cell (p:=⟨z,3,none⟩) hzl).trans c1,(J.cell (p:=⟨g,x,none⟩) hg).trans c2,(J.cell (p:=⟨sb,0,none⟩) ls).trans cs,(J.cell (p:=⟨z,0,none⟩) hzl).trans hz0⟩)
 go_enter func226,ntmps226;go_wp2_with fail;go_region_held3 (λw1=>w1.cell? ⟨zb,0,none⟩=some (.pointer (some ⟨z,0,none⟩))/\w1.cell? ⟨z,3,none⟩=some (.slice (some ⟨g,0,none⟩) k c)/\w1.cell? ⟨g,x,none⟩=some (.pointer (some ⟨nb x,0,none⟩))/\w1.cell? ⟨sb,0,none⟩=some (.int .i64 s)/\w1.cell? ⟨z,0,none⟩=some (.int .i64 mn)) ((first|(go_keep;done)|(exact(Z KM) _ (by assumption)))) ((go_at_call 204;refine((Z HF) _ (dw w)).mono ?_;rintro ev w2⟨rfl,b2⟩;have f2:Below w.heap.size w w2:=bd b2));go_wp2;go_ret;exact⟨by rw[Z hwr];rfl,f2⟩
theorem Mv (z:Nat)(mn lw hi:Int)(k:Nat)(nb fm F:Nat->Nat)(V:Nat->Nd)(fr:Nat->List Nat)(x:Nat)(o:Int)(u:Bool)(zb wb ob sb f1 ub s1:Nat)(w:World)(h:DZ w z mn lw hi k nb fm F V fr)(hx:x<k)(h0:0<=o)(h6:o<=6)
  (cz:w.cell? ⟨zb,0,none⟩=some (ptr z))(cs:w.cell? ⟨sb,0,none⟩=some (.int .i64 (pw o)))(cw:w.cell? ⟨wb,0,none⟩=some (.func (.func 222) #[] #[.pointer (some ⟨ob,0,none⟩)]))(co:w.cell? ⟨ob,0,none⟩=some (.int .i64 o))
  (cf:w.cell? ⟨f1,0,none⟩=some (.func (.func 223) #[] #[.pointer (some ⟨zb,0,none⟩),.pointer (some ⟨wb,0,none⟩)]))(cu:w.cell? ⟨ub,0,none⟩=some (.bool u))(cp:w.cell? ⟨s1,0,none⟩=some (.func (.func 226) #[] #[.pointer (some ⟨zb,0,none⟩),.pointer (some ⟨sb,0,none⟩)])):
  Calls prog 228 (#[.int .i64 x] ++ #[.pointer (some ⟨f1,0,none⟩),.pointer (some ⟨ub,0,none⟩),.pointer (some ⟨s1,0,none⟩)]) w λev w'=>ev=.returned (.bool (okB o mn u (V x)))/\Below w.heap.size w w':=by
 have HF:=I (CF z mn lw hi k nb fm F V fr x o zb wb ob w h hx cz cw co);have lz:=aa w _ cz;have ls:=aa w _ cs;have lu:=aa w _ cu;have lp:=aa w _ cp;simp only at lz ls lu lp;have HS:=I (λw1 (J:Below w.heap.size w w1)=>Mu z mn lw hi k nb fm F V fr x o zb sb w1 (h.b J) hx h0 h6 ((J.cell (p:=⟨zb,0,none⟩) lz).trans cz) ((J.cell (p:=⟨sb,0,none⟩) ls).trans cs));clear h cz cs cw co h0 h6;simp only[dQ,cJ,aT]at*;unfold okB;generalize o9 o (V x)=d1 at*;generalize xC o mn (V x)=d2 at*;go_enter func228,ntmps228;go_wp2_with fail;refine(Z HF).mono ?_;rintro ev w2⟨rfl,b2⟩;cases d1 with
 |false =>
  go_wp2;go_ret;exact⟨rfl,b2⟩
 |true =>
  have cu2:=(b2.cell (p:=⟨ub,0,none⟩) lu).trans cu;cases u with
  |true =>
   go_wp2;go_ret;exact⟨rfl,b2⟩
  |false =>
   have KN:=(b2.cell (p:=⟨s1,0,none⟩) lp).trans cp;have HX:=I ((Z HS) w2 b2);clear HS;go_wp2_with fail;refine(Z HX).mono ?_;rintro ev w3⟨rfl,b3⟩;have f3:=bW b2 b3;cases d2
   all_goals
    go_wp2;go_ret;exact⟨rfl,f3⟩
theorem jm {m:Nat}{L:List Bl}(ht:Tag w A t)(hm:Mp w m L):m≠A:=λe=>by
 obtain⟨⟨es,clock,G,_⟩,_,_⟩:=hm;obtain⟨cur,fz,O⟩:=ht;rw[e,O]at G;cases G
theorem DZ.keep {z:Nat}{mn lw hi:Int}{k:Nat}{nb fm F:Nat->Nat}{V:Nat->Nd}{fr:Nat->List Nat}(h:DZ w z mn lw hi k nb fm F V fr)(D:Kept A A w w')(ht:Tag w A t)(n1:t≠241)(n2:t≠242)(n3:t≠38)(n4:t≠3)(n5:t≠327):DZ w' z mn lw hi k nb fm F V fr:=by
 have hl:=h.lt;have hz:=h.tz.ne ht n1.symm;obtain⟨g,c,e1,o1⟩:=h.cn;obtain⟨g2,c2,rows,e2,o2,r2⟩:=h.cf;refine⟨(D.cell (p:=⟨z,0,none⟩) hl hz hz).trans h.m0,(D.cell (p:=⟨z,1,none⟩) hl hz hz).trans h.m1,(D.cell (p:=⟨z,2,none⟩) hl hz hz).trans h.m2,⟨g,c,(D.cell (p:=⟨z,3,none⟩) hl hz hz).trans e1,fM o1 D ht n2⟩,⟨g2,c2,rows,(D.cell (p:=⟨z,4,none⟩) hl hz hz).trans e2,fM o2 D ht n3,λi hi=>?_⟩,ι hl D.size,λi hi=>?_,h.ok,h.ne,h.fl,h.tz.keep D hz,λi hi=>(h.tb i hi).keep D ((h.tb i hi).ne ht n5.symm)⟩
 ·obtain⟨h',d,e3,o3⟩:=r2 i hi;exact⟨h',d,e3,fM o3 D ht n4⟩
 ·have J:=h.bd i hi;have q1:=(h.tb i hi).ne ht n5.symm;have q2:=jm ht J.f;have q3:=jm ht J.t;exact J.blk D.size (D.block _ J.lt q1 q1) (D.block _ J.f.lt q2 q2) (D.block _ J.t.lt q3 q3)
theorem CG {b:Nat}{LA LB:List Bl}(h:PB w b)(hA:Mp w A LA)(hB:Mp w B LB)(D:Kept A B w w'):PB w' b:=by
 have e:=D.block b h.lt (jO h.c0 hA) (jO h.c0 hB);exact⟨(η (w:=w) e).trans h.c0,(η (w:=w) e).trans h.c1,(η (w:=w) e).trans h.c2,λo=>(π (w:=w) (a:=⟨b,o,none⟩) e).trans (h.f o),ι h.lt D.size,h.tg.blk e⟩
theorem tV (h:Kept A B w w'){c:Nat}(K:w.heap.size<=c)(a b o:Value):Kept A B w (((w'.setCell ⟨c,0,none⟩ a).setCell ⟨c,1,none⟩ b).setCell ⟨c,2,none⟩ o):=((h.gg K 0 a).gg K 1 b).gg K 2 o
theorem EK (z:Nat)(mn lw hi:Int)(k:Nat)(nb fm F:Nat->Nat)(V:Nat->Nd)(fr:Nat->List Nat)(x:Nat)(o:Int)(y:Bl)(w:World)(h:DZ w z mn lw hi k nb fm F V fr)(hx:x<k)(h0:0<=o)(h6:o<=6)(hf:fit o (V x).aca=some y):
  Calls prog 229 #[ptr z,.int .i64 x,.int .i64 o] w λev w'=>ev=.returned (.tuple #[sM x y.1 o,.nilIface])/\DZ w' z mn lw hi k nb fm F (up V x (kC o (V x))) fr/\Kept (fm x) (F x) w w':=by
 have F1:=χ (γ w.heap.size w) (CA 0 0 0);have D1:=h.b F1;have P1:=Av w;obtain⟨g,c,c1,hg,c2⟩:=D1.node hx;have sN:(x:Int)<k:=by omega
 have hx0:(0:Int)<=x:=by omega
 have eH:=h.ok x hx;have HT:=LL (nb x) (fm x) (F x) (V x).N (V x).aca (V x).T o y _ (D1.bd x hx) eH.2.2 eH.2.1 h0 h6 hf;have hN:kC o (V x)=⟨(V x).N,gV o y (V x).aca,ins (y.1,o) (V x).T⟩:=by simp[kC,hf]
 have Vt:=Au h0 eH;rw[hN]at Vt ⊢;have CH:=I HT;clear HT;have HD:=I D1;have K1:Kept (fm x) (F x) w (w.alloc (CA 0 0 0)):=dY F1;have hF:=(D1.bd x hx).f;have hT:=(D1.bd x hx).t;have hs1:w.heap.size<(w.alloc (CA 0 0 0)).heap.size:=by simp
 clear h D1 hf eH hN F1;unfold ptr at*;unfold sM CA fJ at*;obtain⟨ya,yk⟩:=y;simp only at*;go_enter func229,ntmps229;go_wp2_with fail;generalize w.alloc (.cells #[.int .i64 0,.int .i64 0,.int .i64 0] 293)=W at*;refine(Z CH).mono ?_;rintro ev w2⟨rfl,B2,k2⟩;have P2:=(CG P1 hF hT k2).b (χ (γ _ _) (.cells #[.int .i64 ya,.int .i64 o] 291));have D2:=I (((Z HD).turn hx k2 (d:=⟨(V x).N,gV o (ya,yk) (V x).aca,ins (ya,o) (V x).T⟩) B2 Vt).b (χ (γ _ _) (.cells #[.int .i64 ya,.int .i64 o] 291)));have K2:=(K1.trans k2).trans (kp _ _ _ (.cells #[.int .i64 ya,.int .i64 o] 291));have q0:=θ w2 #[.int .i64 ya,.int .i64 o] 291 0;have q1:=θ w2 #[.int .i64 ya,.int .i64 o] 291 1;have k2s:=k2.size;clear CH c1 c2 B2 k2 hF hT K1 HD P1;go_upto_region 4 with(fail);have p0:=P2.c0;have p1:=P2.c1;have p2:=P2.c2;have f0:=P2.f 0;have f1:=P2.f 1;have f2:=P2.f 2;have hzw:w.heap.size≠w2.heap.size:=by have:=P2.lt;simp at this;have:=k2s;omega
 generalize w2.alloc (.cells #[.int .i64 ya,.int .i64 o] 291)=W3 at*;go_wp2_with fail;have t0:(((W3.setCell ⟨w.heap.size,0,none⟩ (.int .i64 (x:Int))).setCell ⟨w.heap.size,1,none⟩ (.int .i64 ya)).setCell ⟨w.heap.size,2,none⟩ (.int .i64 o)).cell? ⟨w.heap.size,0,none⟩=some (.int .i64 (x:Int)):=by rw[bu (by simp),bu (by simp)];exact fK p0
 have t1:(((W3.setCell ⟨w.heap.size,0,none⟩ (.int .i64 (x:Int))).setCell ⟨w.heap.size,1,none⟩ (.int .i64 ya)).setCell ⟨w.heap.size,2,none⟩ (.int .i64 o)).cell? ⟨w.heap.size,1,none⟩=some (.int .i64 ya):=by rw[bu (by simp)];exact fK (by rw[bu (by simp)];exact p1)
 have t2:(((W3.setCell ⟨w.heap.size,0,none⟩ (.int .i64 (x:Int))).setCell ⟨w.heap.size,1,none⟩ (.int .i64 ya)).setCell ⟨w.heap.size,2,none⟩ (.int .i64 o)).cell? ⟨w.heap.size,2,none⟩=some (.int .i64 o):=fK (by rw[bu (by simp),bu (by simp)];exact p2);have ks:=((bA (g:=w.heap.size) W3 0 (.int .i64 (x:Int))).trans (bA _ 1 (.int .i64 ya))).trans (bA _ 2 (.int .i64 o));have DF:=I ((Z D2).keep ks P2.tg (by decide) (by decide) (by decide) (by decide) (by decide));have KF:=tV K2 (ζ _) (.int .i64 (x:Int)) (.int .i64 ya) (.int .i64 o);refine Θ (v:=.tuple #[.agg #[.int .i64 (x:Int),.int .i64 ya,.int .i64 o],.nilIface]) (by simp[results,results229,go_sem,t0,t1,t2];try rfl) rfl ⟨rfl,Z DF,KF⟩
end Dz
namespace Sb
open Fr Bd Zn Dz
variable {ts:List TypeId}{w w':World}{s:Sl}{t:TypeId}{N0 j:Nat}
def eh (ts:List TypeId)(w w':World):Prop:=∀b t,t∈ts->Tag w b t->w'.heap[b]?=w.heap[b]?
theorem eo (h:Below w.heap.size w w'):eh ts w w':=λb _ _ ht=>h.block b ht.lt
theorem Ik {A:Nat}{s:TypeId}(D:Kept A A w w')(hs:Tag w A s)(hn:s∉ts):eh ts w w':=λb t hm ht=>by
 have hne:b≠A:=ht.ne hs (λe=>hn (e▸hm));exact D.block b ht.lt hne hne
theorem cY (h:eh ts w w'){b:Nat}(hm:t∈ts)(ht:Tag w b t):Tag w' b t:=ht.blk (h b t hm ht)
theorem bN (h:eh ts w w'){b:Nat}(hm:t∈ts)(ht:Tag w b t)(j:Nat):w'.cell? ⟨b,j,none⟩=w.cell? ⟨b,j,none⟩:=η (w:=w) (h b t hm ht)
theorem bK {b e size n:Nat}{v:Value}{xs:List Value}(h:w.ownsRow b e size v n xs)(hs:eh ts w w')(hm:e∈ts):w'.ownsRow b e size v n xs:=by
 refine⟨h.1,?_⟩;rcases h.2 with O|⟨g,cap,cur,G,O,h3,h4⟩
 ·exact ε O
 ·exact δ ⟨g,cap,cur,G,O,(hs g e hm ⟨cur,_,h3⟩).trans h3,h4⟩
structure zt (w:World)(b:Nat)(s:Sl):Prop where
 c0:w.cell? ⟨b,0,none⟩=some (.int .i64 s.V)
 c1:w.cell? ⟨b,1,none⟩=some (.int .i64 s.at_)
 c2:w.cell? ⟨b,2,none⟩=some (.int .i64 0)
 c3:w.cell? ⟨b,3,none⟩=some (.int .u64 s.bm)
 tg:Tag w b 300
 fz:∀o,w.frozen? ⟨b,o,none⟩=false
theorem zt.same {b:Nat}(h:zt w b s)(J:w'.heap[b]?=w.heap[b]?):zt w' b s :=
 ⟨(η (w:=w) J).trans h.c0,(η (w:=w) J).trans h.c1,(η (w:=w) J).trans h.c2,(η (w:=w) J).trans h.c3,h.tg.blk J,λo=>(π (w:=w) (a:=⟨b,o,none⟩) J).trans (h.fz o)⟩
theorem zt.b {b:Nat}(h:zt w b s)(J:Below w.heap.size w w'):zt w' b s:=h.same (J.block b h.tg.lt)
def KP (m:Nat)(s:Sl):Prop:=0<=s.at_/\s.at_<256/\s.bm<2^m/\s.V<1000
def dS (bs:List Nat):List Value:=bs.map ptr
theorem nZ {bs:List Nat}{i b:Nat}(h:bs[i]?=some b):(dS bs)[i]?=some (ptr b):=by simp[dS,h]
def kind:Obj->Option TypeId
 |.cells _ t _=>some t
 |_=>none
abbrev Ly:=Nat×Obj×(Nat->Option Obj)
def Lk (ly:Ly)(k:Nat):Prop:=k=ly.1\/∃o,ly.2.2 k=some o
structure LY (N0:Nat)(w:World)(c:Nat)(ly:Ly):Prop where
 c3:w.cell? ⟨c,3,none⟩=some (.map (some ly.1))
 lm:w.heap[ly.1]?=some ly.2.1
 lk:kind ly.2.1=none
 lg:N0<=ly.1
 lx:∀j o,ly.2.2 j=some o->w.heap[j]?=some o/\kind o=none/\j≠ly.1
theorem LY.lt {c:Nat}{ly:Ly}(h:LY N0 w c ly):ly.1<w.heap.size:=(Array.getElem?_eq_some_iff.mp h.lm).1
theorem LY.ne {c:Nat}{ly:Ly}(h:LY N0 w c ly){b:Nat}(ht:Tag w b t):ly.1≠b:=λe=>by
 obtain⟨cur,fz,e2⟩:=ht;have G:=h.lm;rw[e,e2]at G;have O:=h.lk;rw[<- ah G]at O;cases O
theorem aj {b:Nat}{o:Obj}(h:w.heap[j]?=some o)(D:kind o=none)(ht:Tag w b t):j≠b:=λe=>by
 obtain⟨cur,fz,e2⟩:=ht;rw[e,e2]at h;rw[<- ah h]at D;cases D
theorem LY.YL {c:Nat}{ly:Ly}(h:LY N0 w c ly)(E:Lk ly j):j<w.heap.size:=by
 rcases E with rfl|⟨o,e⟩
 ·exact h.lt
 ·exact(Array.getElem?_eq_some_iff.mp (h.lx j o e).1).1
theorem LY.nek {c:Nat}{ly:Ly}(h:LY N0 w c ly)(E:Lk ly j){b:Nat}(ht:Tag w b t):j≠b:=by
 rcases E with rfl|⟨o,e⟩
 ·exact h.ne ht
 ·exact aj (h.lx j o e).1 (h.lx j o e).2.1 ht
theorem LY.set {c c':Nat}{ly:Ly}(h:LY N0 w c ly)(h3:w'.cell? ⟨c',3,none⟩=some (.map (some ly.1)))(hm:∀j,Lk ly j->w'.heap[j]?=w.heap[j]?):LY N0 w' c' ly:=⟨h3,(hm _ (ε rfl)).trans h.lm,h.lk,h.lg,λj o e=>⟨(hm j (δ ⟨o,e⟩)).trans (h.lx j o e).1,(h.lx j o e).2⟩⟩
structure DC (N0:Nat)(w:World)(c z:Nat)(ly:Ly)(sz:Int)(m:Nat)(bs:List Nat)(Q:List Sl):Prop where
 c0:w.cell? ⟨c,0,none⟩=some (ptr z)
 c1:w.cell? ⟨c,1,none⟩=some (.int .i64 sz)
 c2:∃p d,w.cell? ⟨c,2,none⟩=some (.slice p bs.length d)/\w.ownsRow N0 288 1 (.slice p bs.length d) bs.length (dS bs)
 tg:Tag w c 248
 ge:N0<=c
 bg:∀b∈bs,N0<=b
 len:bs.length=Q.length
 V:bs.Nodup
 sl:∀(i:Nat) (b:Nat) (s:Sl),bs[i]?=some b->Q[i]?=some s->zt w b s
 ok:∀s∈Q,KP m s
 so:Sorted Q
 cf:∀o,w.frozen? ⟨c,o,none⟩=false
 mm:1<=sz/\sz<=64/\(m:Int)=64/sz
 ym:LY N0 w c ly
section
variable {N0:Nat}{w w':World}{c z:Nat}{ly:Ly}{sz:Int}{m:Nat}{bs:List Nat}{Q:List Sl}
theorem DC.same (h:DC N0 w c z ly sz m bs Q)(hs:eh [248,288,300] w w')(hm:∀j,Lk ly j->w'.heap[j]?=w.heap[j]?):DC N0 w' c z ly sz m bs Q:=by
 obtain⟨p,d,e2,o2⟩:=h.c2;have K:=λj=>bN hs (by simp) h.tg j;exact⟨(K 0).trans h.c0,(K 1).trans h.c1,⟨p,d,(K 2).trans e2,bK o2 hs (by simp)⟩,cY hs (by simp) h.tg,h.ge,h.bg,h.len,h.V,λi b s G O=>(h.sl i b s G O).same (hs b 300 (by simp) (h.sl i b s G O).tg),h.ok,h.so,λo=>(π (w:=w) (a:=⟨c,o,none⟩) (hs c 248 (by simp) h.tg)).trans (h.cf o),h.mm,h.ym.set ((K 3).trans h.ym.c3) hm⟩
theorem DC.b (h:DC N0 w c z ly sz m bs Q)(J:Below w.heap.size w w'):DC N0 w' c z ly sz m bs Q:=h.same (eo J) (λ_j E=>J.block _ (h.ym.YL E))
theorem DC.slab (h:DC N0 w c z ly sz m bs Q){i:Nat}(hi:i<Q.length):∃b s,bs[i]?=some b/\Q[i]?=some s/\zt w b s/\KP m s:=by
 have J:i<bs.length:=by rw[h.len];exact hi
 exact⟨_,_,ξ J,ξ hi,h.sl i _ _ (ξ J) (ξ hi),h.ok _ (aO hi)⟩
theorem DC.row (h:DC N0 w c z ly sz m bs Q)(hn:0<Q.length):∃g d,w.cell? ⟨c,2,none⟩=some (.slice (some ⟨g,0,none⟩) Q.length d)/\w.ownsRow N0 288 1 (.slice (some ⟨g,0,none⟩) Q.length d) Q.length (dS bs)/\g<w.heap.size/\N0<=g/\∀i b,bs[i]?=some b->w.cell? ⟨g,i,none⟩=some (ptr b):=by
 obtain⟨p,d,e2,o2⟩:=h.c2;rw[h.len]at e2 o2;obtain⟨g,cap,hv,hg,hl⟩:=o2.form hn;simp only[ψ,aZ]at hv;obtain⟨rfl,rfl⟩:=hv;refine⟨g,d,e2,o2,hl,hg,λi b J=>?_⟩;have hi:i<bs.length:=(ν.mp J).1;exact(o2.cellAt i (by rw[h.len]at hi;omega)).trans (nZ J)
theorem DC.turn (h:DC N0 w c z ly sz m bs Q){i b:Nat}{s:Sl}(J:bs[i]?=some b)(hs:Q[i]?=some s)(x:Nat)(hx:x<2^m)(D:Kept b b w w')(hS:zt w' b {s with bm:=x}):DC N0 w' c z ly sz m bs (Q.set i {s with bm:=x}):=by
 have ht:=(h.sl i b s J hs).tg;have hsm:eh [248,288] w w':=Ik D ht (by decide);obtain⟨p,d,e2,o2⟩:=h.c2;have K:=λj=>bN hsm (by simp) h.tg j;refine⟨(K 0).trans h.c0,(K 1).trans h.c1,⟨p,d,(K 2).trans e2,bK o2 hsm (by simp)⟩,cY hsm (by simp) h.tg,h.ge,h.bg,by rw[dp];exact h.len,h.V,λj b' s' G O=>?_,λs' hs'=>?_,Ai h.so hs x,λo=>(π (w:=w) (a:=⟨c,o,none⟩) (hsm c 248 (by simp) h.tg)).trans (h.cf o),h.mm,h.ym.set ((K 3).trans h.ym.c3) (λj E=>D.block _ (h.ym.YL E) (h.ym.nek E ht) (h.ym.nek E ht))⟩
 ·by_cases e:j=i
  ·subst e;have E:j<Q.length:=(ν.mp hs).1;rw[aP E]at O;rw[J]at G;cases G;cases O
   exact hS
  ·rw[cL (cV e)]at O;have h3:=h.sl j b' s' G O;have hne:b'≠b:=λe2=>by
    subst e2;obtain⟨E,hj'⟩:=ν.mp G;obtain⟨hi,hi'⟩:=ν.mp J;have TF:=cO.mp h.V;rcases eX j i with q|q|q
    ·exact TF j i E hi q (hj'.trans hi'.symm)
    ·exact e q
    ·exact TF i j hi E q (hi'.trans hj'.symm)
   exact h3.same (D.block b' h3.tg.lt hne hne)
 ·rcases gK hs' with G|rfl
  ·exact h.ok s' G
  ·have:=h.ok s (aH hs);exact⟨this.1,this.2.1,hx,this.2.2.2⟩
end
variable {ts:List (Option TypeId)}{A N:Nat}{w w':World}{t:TypeId}
structure bD (ts:List (Option TypeId))(N:Nat)(w w':World):Prop where
 os:w'.os=w.os
 tape:w'.tape=w.tape
 output:w'.output=w.output
 size:w.heap.size<=w'.heap.size
 blk:∀k,k<w.heap.size->w'.heap[k]?=w.heap[k]?\/(N<=k/\∃o,w.heap[k]?=some o/\kind o∈ts)
theorem bD.below (h:Below w.heap.size w w'):bD ts N w w':=⟨h.os,h.tape,h.output,h.size,λk D=>ε (h.block k D)⟩
theorem bD.trans {w1 w2:World}(h:bD ts N w w1)(k:bD ts N w1 w2):bD ts N w w2:=by
 refine⟨k.os.trans h.os,k.tape.trans h.tape,k.output.trans h.output,σ h.size k.size,λj E=>?_⟩;rcases h.blk j E with e1|G
 ·rcases k.blk j (ι E h.size)with f1|⟨hN,p,f0,f3⟩
  ·exact ε (f1.trans e1)
  ·exact δ ⟨hN,p,e1.symm.trans f0,f3⟩
 ·exact δ G
theorem bD.mono {sr:List (Option TypeId)}{N':Nat}(h:bD ts N w w')(hs:∀t∈ts,t∈sr)(hN:N'<=N):bD sr N' w w' :=
 ⟨h.os,h.tape,h.output,h.size,λk D=>(h.blk k D).imp id λ⟨G,o,O,h5⟩=>⟨σ hN G,o,O,hs _ h5⟩⟩
theorem bD.toBelow (h:bD ts N w w')(hN:N<=w.heap.size):Below N w w' :=
 ⟨h.os,h.tape,h.output,h.size,λk D=>by
  rcases h.blk k (by omega)with e|⟨G,_⟩
  ·exact e
  ·omega⟩
theorem bD.same (h:bD ts N w w'){b:Nat}(ht:Tag w b t)(hn:some t∉ts):w'.heap[b]?=w.heap[b]?:=by
 rcases h.blk b ht.lt with e|⟨_,o,G,h4⟩
 ·exact e
 ·obtain⟨cur,fz,e⟩:=ht;rw[e]at G;cases G
  exact absurd h4 hn
theorem bD.tag (h:bD ts N w w'){b:Nat}(ht:Tag w b t)(hn:some t∉ts):Tag w' b t:=ht.blk (h.same ht hn)
theorem bD.ep {us:List TypeId}(h:bD ts N w w')(hd:∀t∈us,some t∉ts):eh us w w':=λ_ t hm ht=>h.same ht (hd t hm)
theorem bD.mp (h:bD ts N w w')(hn:none∉ts){b:Nat}{L:List Bl}(hm:Mp w b L):w'.heap[b]?=w.heap[b]?:=by
 rcases h.blk b hm.lt with e|⟨_,o,G,h4⟩
 ·exact e
 ·obtain⟨⟨es,clock,e,_⟩,_,_⟩:=hm;rw[e]at G;cases G
  exact absurd h4 hn
theorem bD.one (D:Kept A A w w')(ht:Tag w A t)(hN:N<=A):bD [some t] N w w' :=
 ⟨D.os,D.tape,D.output,D.size,λk hl=>by
  by_cases e:k=A
  ·subst e;obtain⟨c,f,G⟩:=ht;exact δ ⟨hN,_,G,by simp[kind]⟩
  ·exact ε (D.block k hl e e)⟩
theorem bD.grown {p:Option Addr}{n d:Nat}{xs:List Value}(h:w.grownBy w' (Value.slice p n d).ownBlock)(ho:w.ownsRow N t 1 (.slice p n d) n xs):bD [some t] N w w' :=
 ⟨h.os,h.tape,h.output,h.size,λk hl=>by
  by_cases e:some k=(Value.slice p n d).ownBlock
  ·rcases ho.2 with⟨e2,_⟩|⟨g,cap,cur,e2,hg,hh,_⟩
   ·rw[e2]at e;cases e
   ·rw[e2]at e;simp only[Value.ownBlock,τ]at e;subst e;exact δ ⟨hg,_,hh,by simp[kind]⟩
  ·exact ε (h.block k hl e)⟩
theorem bD.set (ht:Tag w A t)(hN:N<=A)(o:Nat)(v:Value):bD [some t] N w (w.setCell ⟨A,o,none⟩ v):=
 ⟨rfl,rfl,rfl,by simp[World.setCell],λk _=>by
  by_cases e:k=A
  ·subst e;obtain⟨c,f,G⟩:=ht;exact δ ⟨hN,_,G,by simp[kind]⟩
  ·exact ε (μ _ _ _ _ e)⟩
theorem bD.maps {B:Nat}{LA LB:List Bl}(D:Kept A B w w')(hA:Mp w A LA)(hB:Mp w B LB)(G:N<=A)(O:N<=B):bD [none] N w w' :=
 ⟨D.os,D.tape,D.output,D.size,λk hl=>by
  by_cases e:k=A
  ·subst e;obtain⟨⟨es,clock,e1,_⟩,_,_⟩:=hA;exact δ ⟨G,_,e1,by simp[kind]⟩
  ·by_cases e':k=B
   ·subst e';obtain⟨⟨es,clock,e1,_⟩,_,_⟩:=hB;exact δ ⟨O,_,e1,by simp[kind]⟩
   ·exact ε (D.block k hl e e')⟩
theorem AB {z:Nat}{mn lw hi:Int}{k:Nat}{nb fm F:Nat->Nat}{V:Nat->Nd}{fr:Nat->List Nat}(h:DZ w z mn lw hi k nb fm F V fr)(K:bD ts N w w')(h0:none∉ts)(G:∀t∈([241,242,38,3,327]:List TypeId),some t∉ts):DZ w' z mn lw hi k nb fm F V fr:=by
 have hs:=K.ep G;have hl:=h.lt;have hz:=λj=>bN hs (by simp) h.tz j;obtain⟨g,c,e1,o1⟩:=h.cn;obtain⟨g2,c2,rows,e2,o2,r2⟩:=h.cf;refine⟨(hz 0).trans h.m0,(hz 1).trans h.m1,(hz 2).trans h.m2,⟨g,c,(hz 3).trans e1,bK o1 hs (by simp)⟩,⟨g2,c2,rows,(hz 4).trans e2,bK o2 hs (by simp),λi hi=>?_⟩,ι hl K.size,λi hi=>?_,h.ok,h.ne,h.fl,cY hs (by simp) h.tz,λi hi=>cY hs (by simp) (h.tb i hi)⟩
 ·obtain⟨h',d,e3,o3⟩:=r2 i hi;exact⟨h',d,e3,bK o3 hs (by simp)⟩
 ·have J:=h.bd i hi;exact J.blk K.size (hs _ 327 (by simp) (h.tb i hi)) (K.mp h0 J.f) (K.mp h0 J.t)
theorem bD.aQ (h:bD ts N w w')(hn:none∉ts){j:Nat}{o:Obj}(ho:w.heap[j]?=some o)(D:kind o=none):w'.heap[j]?=w.heap[j]?:=by
 rcases h.blk j (Array.getElem?_eq_some_iff.mp ho).1 with e|⟨_,o',G,h4⟩
 ·exact e
 ·rw[ho]at G;rw[<- ah G,D]at h4;exact absurd h4 hn
theorem bD.ly {N0:Nat}{c:Nat}{ly:Ly}(h:bD ts N w w')(hn:none∉ts)(hy:LY N0 w c ly)(j:Nat)(E:Lk ly j):w'.heap[j]?=w.heap[j]?:=by
 rcases E with rfl|⟨o,e⟩
 ·exact h.aQ hn hy.lm hy.lk
 ·exact h.aQ hn (hy.lx j o e).1 (hy.lx j o e).2.1
end Sb
namespace Mg
open Fr Bd Zn Dz Sb
theorem Ml.aQ {w:World}{mb q:Nat}{f:Int->Int->Option Nat}(h:Ml w mb q f):∃o,w.heap[mb]?=some o/\kind o=none:=by
 obtain⟨ab8,⟨es,clock,G,_⟩,_⟩:=h.own;exact⟨_,G,rfl⟩
theorem aX {w:World}{b e size n:Nat}{v:Value}{xs:List Value}(h:w.ownsRow b e size v n xs):∃p d,v=.slice p n d:=by
 rcases h.2 with⟨rfl,rfl⟩|⟨g,cap,cur,rfl,_⟩
 ·exact⟨_,_,rfl⟩
 ·exact⟨_,_,rfl⟩
structure jQ (N0:Nat)(w:World)(c t r:Nat)(xs:List Bl):Prop where
 c0:w.cell? ⟨t,0,none⟩=some (ptr c)
 c1:∃v,w.cell? ⟨t,1,none⟩=some v/\w.ownsRow N0 34 2 v xs.length (flat xs)/\((v=.slice none 0 0/\r=t)\/∃cp,v=.slice (some ⟨r,0,none⟩) xs.length cp)
 tg:Tag w t 286
 ge:N0<=t
 fz:∀o,w.frozen? ⟨t,o,none⟩=false
section
variable {N0:Nat}{w w':World}{c t r:Nat}{xs:List Bl}
theorem jQ.row (h:jQ N0 w c t r xs):r=t\/(Tag w r 34/\N0<=r):=by
 obtain⟨v,_,o,(⟨_,e⟩|⟨cp,rfl⟩)⟩:=h.c1
 ·exact ε e
 ·rcases o.2 with⟨e,_⟩|⟨g,cap,cur,e,hg,hh,_⟩
  ·cases e
  ·simp only[ψ,τ,av]at e;obtain⟨⟨rfl,_⟩,_⟩:=e;exact δ ⟨⟨cur,_,hh⟩,hg⟩
theorem jQ.xG (h:jQ N0 w c t r xs):r<w.heap.size:=by
 rcases h.row with rfl|h'
 ·exact h.tg.lt
 ·exact h'.1.lt
theorem jQ.rge (h:jQ N0 w c t r xs):N0<=r:=by
 rcases h.row with rfl|h'
 ·exact h.ge
 ·exact h'.2
theorem jQ.same (h:jQ N0 w c t r xs)(ht:w'.heap[t]?=w.heap[t]?)(hr:w'.heap[r]?=w.heap[r]?):jQ N0 w' c t r xs:=by
 obtain⟨v,e,o,hv⟩:=h.c1;refine⟨(η (w:=w) ht).trans h.c0,⟨v,(η (w:=w) ht).trans e,⟨o.1,?_⟩,hv⟩,h.tg.blk ht,h.ge,λj=>(π (w:=w) (a:=⟨t,j,none⟩) ht).trans (h.fz j)⟩;rcases o.2 with O|⟨g,cap,cur,G,O,h3,h4⟩
 ·exact ε O
 ·refine δ ⟨g,cap,cur,G,O,?_,h4⟩;rcases hv with⟨e1,_⟩|⟨cp,e1⟩
  ·rw[e1]at G;cases G
  ·rw[e1]at G;simp only[ψ,τ,av]at G;obtain⟨⟨rfl,_⟩,_⟩:=G;exact hr.trans h3
theorem jQ.b (h:jQ N0 w c t r xs)(J:Below w.heap.size w w'):jQ N0 w' c t r xs:=h.same (J.block _ h.tg.lt) (J.block _ h.xG)
end
def ez (ws:List (Nat×Nat))(pl:List Nat):List Nat:=ws.flatMap (λx=>[x.1,x.2])++pl
def eB (ws:List (Nat×Nat)):List Value:=ws.flatMap λx=>[ptr x.1,ptr x.2]
theorem mz:∀(l:List (Nat×Nat)) (i:Nat) (x:Nat×Nat),l[i]?=some x->(eB l)[i*2]?=some (ptr x.1)/\(eB l)[i*2+1]?=some (ptr x.2)
 |[],i,x,h=>by simp at h
 |y::l,0,x,h=>by
  simp only[υ,τ]at h;subst h;exact⟨rfl,rfl⟩
 |y::l,i+1,x,h=>by
  have:=mz l i x (by simpa using h);have e:eB (y::l)=[ptr y.1,ptr y.2]++eB l:=rfl;rw[e,show(i+1)*2=i*2+2 from by omega,show i*2+2+1=(i*2+1)+2 from by omega];simpa using this
structure TS (N0:Nat)(U:Nat->Prop)(w:World)(c mb q:Nat)(f:Int->Int->Option Nat)(L:List Nat)(rb:Nat->Nat)(ct:Nat->List Bl):Prop where
 V:L.Nodup
 tr:∀t∈L,jQ N0 w c t (rb t) (ct t)
 rd:∀t∈L,∀u∈L,t≠u->rb t≠rb u
 ru:∀t∈L,¬U (rb t)
 ml:Ml w mb q f
 mg:N0<=mb
 lf:∀a b t,f a b=some t↔t∈L/\(a,b)∈ct t
 cn:∀t∈L,(ct t).Nodup/\(ct t).length<=4/\∀o∈ct t,W2 o.1 o.2
structure DB (N0:Nat)(w:World)(c d g:Nat)(ws:List (Nat×Nat))(pl:List Nat):Prop where
 d0:w.cell? ⟨d,0,none⟩=some (ptr c)
 d1:∃cp,w.cell? ⟨d,1,none⟩=some (.slice (some ⟨g,0,none⟩) ws.length cp)/\w.ownsRow N0 177 2 (.slice (some ⟨g,0,none⟩) ws.length cp) ws.length (eB ws)
 d2:∃p cp,w.cell? ⟨d,2,none⟩=some (.slice p pl.length cp)/\w.ownsRow N0 175 1 (.slice p pl.length cp) pl.length (dS pl)
 tg:Tag w d 182
 ge:N0<=d
 fz:∀o,w.frozen? ⟨d,o,none⟩=false
section
variable {N0:Nat}{U:Nat->Prop}{w w':World}{c d g mb q:Nat}{f:Int->Int->Option Nat}{ws:List (Nat×Nat)}{pl:List Nat}{L:List Nat}{rb:Nat->Nat}{ct:Nat->List Bl}
variable {ts:List (Option TypeId)}{N t:Nat}
theorem vw {b e size n:Nat}{v:Value}{xs:List Value}(h:w.ownsRow b e size v n xs)(K:bD ts N w w')(hn:some e∉ts):w'.ownsRow b e size v n xs:=bK h (K.ep (us:=[e]) (by simpa using hn)) (by simp)
theorem DB.same (h:DB N0 w c d g ws pl)(hs:eh [182,175,177] w w'):DB N0 w' c d g ws pl:=by
 obtain⟨cp,e1,o1⟩:=h.d1;obtain⟨p,KN,e2,o2⟩:=h.d2;have K:=λj=>bN hs (by simp) h.tg j;exact⟨(K 0).trans h.d0,⟨cp,(K 1).trans e1,bK o1 hs (by simp)⟩,⟨p,KN,(K 2).trans e2,bK o2 hs (by simp)⟩,cY hs (by simp) h.tg,h.ge,λo=>(π (w:=w) (a:=⟨d,o,none⟩) (hs d 182 (by simp) h.tg)).trans (h.fz o)⟩
theorem DB.b (h:DB N0 w c d g ws pl)(J:Below w.heap.size w w'):DB N0 w' c d g ws pl:=h.same (eo J)
theorem TS.same (h:TS N0 U w c mb q f L rb ct)(ht:∀t∈L,w'.heap[t]?=w.heap[t]?)(hm:w'.heap[mb]?=w.heap[mb]?)(hr:∀t∈L,w'.heap[rb t]?=w.heap[rb t]?):TS N0 U w' c mb q f L rb ct :=
 ⟨h.V,λt hL=>(h.tr t hL).same (ht t hL) (hr t hL),h.rd,h.ru,h.ml.blk hm,h.mg,h.lf,h.cn⟩
theorem TS.b (h:TS N0 U w c mb q f L rb ct)(J:Below w.heap.size w w'):TS N0 U w' c mb q f L rb ct:=h.same (λt ht=>J.block _ (h.tr t ht).tg.lt) (J.block _ h.ml.lt) (λt ht=>J.block _ (h.tr t ht).xG)
theorem TS.n_ (h:TS N0 U w c mb q f L rb ct)(K:bD ts N w w')(G:some 286∉ts)(O:some 34∉ts)(hm:w'.heap[mb]?=w.heap[mb]?):TS N0 U w' c mb q f L rb ct:=by
 refine h.same (λt ht=>K.same (h.tr t ht).tg G) hm (λt ht=>?_);rcases(h.tr t ht).row with e|h'
 ·rw[e];exact K.same (h.tr t ht).tg G
 ·exact K.same h'.1 O
theorem TS.Q5 (h:TS N0 U w c mb q f L rb ct)(K:bD ts N w w')(G:some 286∉ts)(O:some 34∉ts)(h3:none∉ts):TS N0 U w' c mb q f L rb ct:=by
 refine h.n_ K G O ?_;rcases K.blk mb h.ml.lt with e|⟨_,o,e1,e2⟩
 ·exact e
 ·obtain⟨o',e3,e4⟩:=h.ml.aQ;rw[e1]at e3;rw[ah e3,e4]at e2;exact absurd e2 h3
theorem TS.Vx (h:TS N0 U w c mb q f L rb ct)(hs:∀k,k<w.heap.size->¬U k->w'.heap[k]?=w.heap[k]?)(hu:∀k,U k->Tag w k 34):TS N0 U w' c mb q f L rb ct:=by
 refine h.same (λt ht=>hs t (h.tr t ht).tg.lt (λhU=>(h.tr t ht).tg.ne (hu t hU) (by decide) rfl)) (hs mb h.ml.lt (λhU=>?_)) (λt ht=>hs _ (h.tr t ht).xG (h.ru t ht));obtain⟨o,G,O⟩:=h.ml.aQ;obtain⟨cur,fz,h3⟩:=hu mb hU;rw[G]at h3;rw[ah h3]at O;cases O
theorem TS.others (h:TS N0 U w c mb q f L rb ct){ab7:Nat->Prop}(hv:∀t∈L,ab7 (rb t)->U (rb t)):TS N0 ab7 w c mb q f L rb ct:=⟨h.V,h.tr,h.rd,λt ht hV=>h.ru t ht (hv t ht hV),h.ml,h.mg,h.lf,h.cn⟩
theorem TS.sub (h:TS N0 U w c mb q f L rb ct){L':List Nat}(hn:L'.Nodup)(hs:∀t∈L',t∈L)(he:∀t∈L,t∉L'->ct t=[]):TS N0 U w c mb q f L' rb ct :=
 ⟨hn,λt ht=>h.tr t (hs t ht),λt ht u hu=>h.rd t (hs t ht) u (hs u hu),λt ht=>h.ru t (hs t ht),h.ml,h.mg,λa b t=>by
  rw[h.lf];refine⟨λ⟨G,O⟩=>⟨?_,O⟩,λ⟨G,O⟩=>⟨hs t G,O⟩⟩;by_cases h3:t∈L'
  ·exact h3
  ·exact absurd O (by rw[he t G h3];simp),λt ht=>h.cn t (hs t ht)⟩
def kQ {α : Type}(f:Nat->α)(t:Nat)(v : α):Nat->α:=λx=>if x=t then v else f x
theorem cH {α : Type}(f:Nat->α)(t:Nat)(v : α):kQ f t v t=v:=by simp[kQ]
theorem bH {α : Type}{f:Nat->α}{x:Nat}(h:x≠t)(v : α):kQ f t v x=f x:=by simp[kQ,h]
theorem TS.add (h:TS N0 U w c mb q f L rb ct)(hn:t∉L)(hT:jQ N0 w c t t [])(hr:∀u∈L,rb u≠t)(hu:¬U t):TS N0 U w c mb q f (t::L) (kQ rb t t) (kQ ct t []):=by
 have hne:∀u∈L,u≠t:=λu hu e=>hn (e▸hu);refine⟨a_.2 ⟨hn,h.V⟩,λu hu=>?_,λu hu v hv Vy=>?_,λu O3=>?_,h.ml,h.mg,λa b u=>?_,λu hu=>?_⟩
 ·rcases ae.1 hu with rfl|hu
  ·rw[cH,cH];exact hT
  ·rw[bH (hne u hu),bH (hne u hu)];exact h.tr u hu
 ·rcases ae.1 hu with e|hu
  ·rcases ae.1 hv with e2|hv
   ·exact absurd (e.trans e2.symm) Vy
   ·rw[e,cH,bH (hne v hv)];exact(hr v hv).symm
  ·rcases ae.1 hv with e2|hv
   ·rw[e2,cH,bH (hne u hu)];exact hr u hu
   ·rw[bH (hne u hu),bH (hne v hv)];exact h.rd u hu v hv Vy
 ·rcases ae.1 O3 with rfl|O3
  ·rw[cH];exact hu
  ·rw[bH (hne u O3)];exact h.ru u O3
 ·rw[h.lf];refine⟨λ⟨G,O⟩=>⟨aD _ G,by rw[bH (hne u G)];exact O⟩,λ⟨G,O⟩=>?_⟩;rcases ae.1 G with rfl|G
  ·rw[cH]at O;cases O
  ·rw[bH (hne u G)]at O;exact⟨G,O⟩
 ·rcases ae.1 hu with rfl|hu
  ·rw[cH];exact⟨dm,by simp,λo ho=>by cases ho⟩
  ·rw[bH (hne u hu)];exact h.cn u hu
end
end Mg
namespace Sb
open Fr Bd Zn Dz
theorem Ir (s:Sl)(x:Nat)(a:Int):cm s x a<0↔lt s x a:=by
 unfold cm Vz jf lt;by_cases G:(s.V:Int)<x
 ·simp[G];omega
 ·by_cases O:(x:Int)<s.V
  ·simp[G,O];omega
  ·by_cases h3:s.at_<a
   ·simp[G,O,h3];omega
   ·by_cases h4:a<s.at_
    ·simp[G,O,h3,h4];omega
    ·simp[G,O,h3,h4];omega
theorem Mz {Q:List Sl}(hs:Sorted Q)(x:Nat)(a:Int):∀i j,i<=j->j<Q.length->cm (Q.getD j default) x a<0->cm (Q.getD i default) x a<0:=by
 intro i j Ec E h;rcases Nat.eq_or_lt_of_le Ec with rfl|hlt
 ·exact h
 ·have hi:i<Q.length:=by omega
  have e1:=ξ hi;have e2:=ξ E;rw[getD_at e2]at h;rw[getD_at e1];rw[Ir]at h ⊢;exact lt_trans (sorted_at hs e1 e2 hlt) h
theorem Q6 {Q:List Sl}{x:Nat}{a:Int}{k:Nat}(h:k<=Q.length/\(∀t,t<k->cm (Q.getD t default) x a<0)/\∀t,k<=t->t<Q.length->0<=cm (Q.getD t default) x a):Pos Q x a k:=by
 refine⟨h.1,λt s ht hs=>?_,λt s ht hs hl=>?_⟩
 ·have:=h.2.1 t ht;rw[getD_at hs,Ir]at this;exact this
 ·have:=h.2.2 t ht (ν.mp hs).1;rw[getD_at hs]at this;rw[<- Ir]at hl;omega
theorem Iu (bs:List Nat):∀v∈dS bs,v.oneCell'=true:=by
 intro v hv;obtain⟨b,_,rfl⟩:=eV.1 hv;rfl
section
variable {N0:Nat}{w w':World}{c z:Nat}{ly:Ly}{sz:Int}{m:Nat}{bs:List Nat}{Q:List Sl}
theorem DC.CI (h:DC N0 w c z ly sz m bs Q){p:Option Addr}{d:Nat}(ho:w.ownsRow N0 288 1 (.slice p bs.length d) bs.length (dS bs)):tW w p Q.length (λi=>bs.getD i 0) (λi=>Q.getD i default):=by
 intro i hi;have J:i<bs.length:=by rw[h.len];exact hi
 obtain⟨b,s,e1,e2,e3,e4⟩:=h.slab hi;rcases ho.2 with⟨_,h0⟩|⟨g,cap,cur,hv,hg,hh,_⟩
 ·omega
 ·simp only[ψ,aZ]at hv;obtain⟨rfl,rfl⟩:=hv;have hl:=ho.lt g rfl;refine⟨g,rfl,hl.2,?_⟩;simp only[getD_at e1,getD_at e2];exact⟨(ho.cellAt i (by omega)).trans (nZ e1),e3.tg.lt,e3.c0,e3.c1⟩
theorem DC.ins (h:DC N0 w c z ly sz m bs Q){b k:Nat}{x:Sl}(hp:Pos Q x.V x.at_ k)(hne:∀s∈Q,s.V=x.V->s.at_≠x.at_)(eH:KP m x)(J:b∉bs)(hbN:N0<=b)(hS:zt w' b x)(h0:w'.cell? ⟨c,0,none⟩=some (ptr z))(G:w'.cell? ⟨c,1,none⟩=some (.int .i64 sz)){p:Option Addr}{d:Nat}
  (O:w'.cell? ⟨c,2,none⟩=some (.slice p (bs.length+1) d))(ho:w'.ownsRow N0 288 1 (.slice p (bs.length+1) d) (bs.length+1) (Sb.ins (dS bs) k (ptr b)))(ht:Tag w' c 248)(Q7:∀o,w'.frozen? ⟨c,o,none⟩=false)(hold:∀(j b':Nat) (s:Sl),bs[j]?=some b'->Q[j]?=some s->zt w' b' s)(rB:LY N0 w' c ly):DC N0 w' c z ly sz m (Sb.ins bs k b) (Sb.ins Q k x):=by
 have hkb:k<=bs.length:=by rw[h.len];exact hp.1
 have hl:(Sb.ins bs k b).length=bs.length+1:=ek _ _ _;refine⟨h0,G,⟨p,d,by rw[hl];exact O,?_⟩,ht,h.ge,λb' hb'=>?_,by rw[ek,ek,h.len],?_,λi b' s e1 e2=>?_,λs hs=>?_,Ah h.so hp hne,Q7,h.mm,rB⟩
 ·rw[hl];have e:dS (Sb.ins bs k b)=Sb.ins (dS bs) k (ptr b):=Me _ _ _ _;rw[e];exact ho
 ·rcases nV.mp hb' with rfl|h'
  ·exact hbN
  ·exact h.bg b' h'
 ·unfold Sb.ins;rw[aF,a_];have hn:=h.V;rw[<- bS k bs,aF]at hn;refine⟨hn.1,⟨λhm=>J (dH hm),hn.2.1⟩,λy hy y' hy' e=>?_⟩;subst e;rcases ae.mp hy' with rfl|h'
  ·exact J (gw hy)
  ·exact hn.2.2 y hy y h' rfl
 ·rw[cF _ hkb]at e1;rw[cF _ hp.1]at e2;split at e1
  ·rename_i hlt;rw[af hlt]at e2;exact hold i b' s e1 e2
  ·rename_i hlt;rw[ai hlt]at e2;split at e1
   ·rename_i he;rw[af he]at e2;cases e1;cases e2
    exact hS
   ·rename_i he;rw[ai he]at e2;exact hold (i-1) b' s e1 e2
 ·rcases nV.mp hs with rfl|h'
  ·exact eH
  ·exact h.ok s h'
end
theorem Q8 (w:World)(cs:Array Value)(t:TypeId){g:Nat}(hg:w.heap.size=g)(o:Nat):(w.alloc (.cells cs t)).frozen? ⟨g,o,none⟩=false:=by
 subst hg;exact aG cs t w.heap.size o rfl
def VC (N0:Nat)(w:World)(c z:Nat)(ly:Ly)(sz:Int)(m:Nat)(bs:List Nat)(Q:List Sl)(x:Nat)(a:Int)(ev:Ending)(w':World):Prop :=
 ∃b k,ev=.returned (ptr b)/\Pos Q x a k/\w.heap.size<=b/\DC N0 w' c z ly sz m (Sb.ins bs k b) (Sb.ins Q k ⟨x,a,0⟩)/\bD [some 248,some 288] N0 w w'
theorem Q9 (N0:Nat)(c z:Nat)(ly:Ly)(sz:Int)(m:Nat)(bs:List Nat)(Q:List Sl)(x:Nat)(a:Int)(w:World)(h:DC N0 w c z ly sz m bs Q)(hne:∀s∈Q,s.V=x->s.at_≠a)(hx:x<1000)(ha:0<=a/\a<256)(hn:Q.length<=10000):
  Calls prog 172 #[ptr c,sM x a 0] w λev w'=>VC N0 w c z ly sz m bs Q x a ev w':=by
 have eR:=h.tg.lt;have F1:=χ (γ w.heap.size w) (CA x a 0);have q0:=θ w #[.int .i64 x,.int .i64 a,.int .i64 0] 293 0;have q1:=θ w #[.int .i64 x,.int .i64 a,.int .i64 0] 293 1;have q2:=θ w #[.int .i64 x,.int .i64 a,.int .i64 0] 293 2;simp only[Δ,υ,ω]at q0 q1 q2;have hsz:(w.alloc (.cells #[.int .i64 x,.int .i64 a,.int .i64 0] 293)).heap.size=w.heap.size+1:=by simp
 have HBL:Hid (w.heap.size+1∉bs):=λ(hm:w.heap.size+1∈bs)=>by
  obtain⟨i,hi,e⟩:=bU hm;have:=(h.sl i _ _ (ξ hi) (ξ (by rw[<- h.len];exact hi))).tg.lt;rw[e]at this;omega
 have HD:=I h;have cZ:=I F1;clear h F1;unfold ptr sM CA at*;go_enter func172,ntmps172;go_upto_region 1 with(fail);generalize w.alloc (.cells #[.int .i64 x,.int .i64 a,.int .i64 0] 293)=W at*;go_upto_region 2 with(fail);have F2:=χ (Z cZ) (.cells #[.int .i64 x,.int .i64 a,.int .i64 0,.int .u64 0] 300);have G2:=χ (γ W.heap.size W) (.cells #[.int .i64 x,.int .i64 a,.int .i64 0,.int .u64 0] 300);have r:=θ W #[.int .i64 x,.int .i64 a,.int .i64 0,.int .u64 0] 300;have tb:=bB W #[.int .i64 x,.int .i64 a,.int .i64 0,.int .u64 0] 300;have hs2:(W.alloc (.cells #[.int .i64 x,.int .i64 a,.int .i64 0,.int .u64 0] 300)).heap.size=w.heap.size+2:=by simp[hsz]
 have r0:=r 0;have r1:=r 1;have r2:=r 2;have r3:=r 3;have p0:=(G2.cell (p:=⟨w.heap.size,0,none⟩) (by rw[hsz];simp)).trans q0;have p1:=(G2.cell (p:=⟨w.heap.size,1,none⟩) (by rw[hsz];simp)).trans q1;have p2:=(G2.cell (p:=⟨w.heap.size,2,none⟩) (by rw[hsz];simp)).trans q2;simp only[Δ,υ,ω]at r0 r1 r2 r3;clear q0 q1 q2 r G2;rw[hsz]at r0 r1 r2 r3 tb;generalize hW2:W.alloc (.cells #[.int .i64 x,.int .i64 a,.int .i64 0,.int .u64 0] 300)=W2 at*;have HS2:Hid (zt W2 (w.heap.size+1) ⟨x,a,0⟩):=⟨r0,r1,r2,r3,tb,λo=>by rw[<- hW2];exact Q8 W _ _ hsz o⟩;clear r0 r1 r2 r3 tb hW2 cZ;have D2:=(Z HD).b F2;obtain⟨p,d,e2,o2⟩:=D2.c2;have TN:=D2.CI o2;have kn:=D2.len;have HBS:=I (λW3 (J:Below W2.heap.size W2 W3)=>VB p Q.length d (λi=>bs.getD i 0) (λi=>Q.getD i default) x a 0 W3 (TN.b J) (by omega) (Mz D2.so x a));have GX:=I D2;have AE:=I o2;have eA:=I F2;clear D2 o2 TN F2 HD;rw[kn]at e2;unfold sM at*;have VD:c<W2.heap.size:=by omega
 go_region_held3 (λw'=>w'.cell? ⟨c,2,none⟩=some (.slice p Q.length d)/\w'.cell? ⟨w.heap.size,0,none⟩=some (.int .i64 x)/\w'.cell? ⟨w.heap.size,1,none⟩=some (.int .i64 a)/\w'.cell? ⟨w.heap.size,2,none⟩=some (.int .i64 0)) ((first|(go_keep;done)|(exact⟨(Below.cell (by assumption) (p:=⟨c,2,none⟩) VD).trans e2,(Below.cell (by assumption) (p:=⟨w.heap.size,0,none⟩) (by rw[hs2];simp)).trans p0,(Below.cell (by assumption) (p:=⟨w.heap.size,1,none⟩) (by rw[hs2];simp)).trans p1,(Below.cell (by assumption) (p:=⟨w.heap.size,2,none⟩) (by rw[hs2];simp)).trans p2⟩))) ((go_at_call 231;refine((Z HBS) _ (dw W2)).mono ?_;rintro ev w3⟨k,f,rfl,D,b3⟩;have f3:Below W2.heap.size W2 w3:=bd b3));have D3:=(Z GX).b f3;have F3:=(Z eA).trans (f3.mono (by omega));have hS3:=(Z HS2).b f3;have o3:=aN (Z AE) f3;have hw3:w.heap.size+2<=w3.heap.size:=by have:=f3.size;omega
 have G4:=χ (γ w3.heap.size w3) (.cells #[.pointer (some ⟨w.heap.size+1,0,none⟩)] 288);have D4:=D3.b G4;have S4:=hS3.b G4;have o4:=aN o3 G4;rw[kn]at o4;have gY:=heap_alloc_new w3 (.cells #[.pointer (some ⟨w.heap.size+1,0,none⟩)] 288);have hrow:∀g o,p=some ⟨g,o,none⟩->w3.heap.size≠g:=λg o e=>by
  have:=o3.lt g (by rw[e];rfl);omega
 have YM:=I (AA N0 p Q.length d k w3.heap.size (dS bs) (ptr (w.heap.size+1)) _ o4 D.1 (by omega) (by have:=D4.tg.lt;have:=D4.ge;omega) gY hrow (Iu bs) rfl);have c2:=(f3.cell (p:=⟨c,2,none⟩) VD).trans e2;have Q_:some c≠(Value.slice p Q.length d).ownBlock:=λe=>by
  rcases o4.2 with⟨e2,_⟩|⟨g,cap,cur,e2,hg,hh,_⟩
  ·rw[e2]at e;cases e
  ·rw[e2]at e;simp only[Value.ownBlock,τ]at e;subst e;exact D4.tg.ne ⟨cur,_,hh⟩ (by decide) rfl
 have HD4:=I D4;have KQ:=I S4;have mP:=I o4;have VE:=I (Q6 D);have Iw:c<w3.heap.size:=by omega
 have hc4:=(G4.cell (p:=⟨c,2,none⟩) Iw).trans c2;have jI:=I (F3.trans (G4.mono (by omega)));have xI:Hid (∀w5,(w3.alloc (.cells #[.pointer (some ⟨w.heap.size+1,0,none⟩)] 288)).grownBy w5 (Value.slice p Q.length d).ownBlock->w5.cell? ⟨c,2,none⟩=some (.slice p Q.length d)/\w5.frozen? ⟨c,2,none⟩=false):=λw5 hg=>by
  have e:=hg.block c D4.tg.lt Q_;exact⟨(η (a:=⟨c,2,none⟩) e).trans hc4,(π (a:=⟨c,2,none⟩) e).trans (D4.cf 2)⟩
 have HN5:=I Q_;clear D3 F3 hS3 o3 G4 D4 S4 o4 gY D f3 b3 HBS GX AE eA HS2 p0 p1 p2 e2 Q_ hrow hc4;unfold ptr at*;go_wp2_with (go_at_call 234;refine(Z YM).mono ?_;rintro ev w5⟨p',d',rfl,o5,g5⟩;obtain⟨c5,f5⟩:=(Z xI) w5 g5);have qF:VC N0 w c z ly sz m bs Q x a (.returned (.pointer (some ⟨w.heap.size+1,0,none⟩))) (w5.setCell ⟨c,2,none⟩ (.slice p' (Q.length+1) d')):=by
  have D4:=Z HD4;have ge:=D4.ge;have hN4:N0<=(w3.alloc (.cells #[.pointer (some ⟨w.heap.size+1,0,none⟩)] 288)).heap.size:=by have:=D4.tg.lt;omega
  have hcb:w5.heap[c]?=_:=g5.block c D4.tg.lt (Z HN5);have hcell:∀j v,(w3.alloc (.cells #[.pointer (some ⟨w.heap.size+1,0,none⟩)] 288)).cell? ⟨c,j,none⟩=some v->w5.cell? ⟨c,j,none⟩=some v:=λj v hv=>(η (a:=⟨c,j,none⟩) hcb).trans hv;have CJ:=D4.tg.blk hcb;have YN:∀b' s,zt (w3.alloc (.cells #[.pointer (some ⟨w.heap.size+1,0,none⟩)] 288)) b' s->zt (w5.setCell ⟨c,2,none⟩ (.slice p' (Q.length+1) d')) b' s:=λb' s hs=>by
   have qT:some b'≠(Value.slice p Q.length d).ownBlock:=λe=>by
    have o4:=Z mP;rcases o4.2 with⟨e2,_⟩|⟨g,cap,cur,e2,hg,hh,_⟩
    ·rw[e2]at e;cases e
    ·rw[e2]at e;simp only[Value.ownBlock,τ]at e;subst e;exact hs.tg.ne ⟨cur,_,hh⟩ (by decide) rfl
   have Ra:b'≠c:=hs.tg.ne D4.tg (by decide);exact hs.same ((μ _ _ _ _ Ra).trans (g5.block b' hs.tg.lt qT))
  have o6:(w5.setCell ⟨c,2,none⟩ (.slice p' (Q.length+1) d')).ownsRow N0 288 1 (.slice p' (Q.length+1) d') (Q.length+1) (Sb.ins (dS bs) k (ptr (w.heap.size+1))):=
   bK o5 ((bD.set CJ ge 2 _).ep (us:=[288]) (by simp)) (by simp)
  refine⟨w.heap.size+1,k,rfl,Z VE,by omega,?_,?_⟩
  ·refine DC.ins (Z HD4) (Z VE) hne ⟨ha.1,ha.2,Nat.two_pow_pos _,hx⟩ (Z HBL) (by omega) (YN _ _ (Z KQ)) ((bu (by simp)).trans (hcell 0 _ D4.c0)) ((bu (by simp)).trans (hcell 1 _ D4.c1)) (p:=p') (d:=d') ?_ (by rw[kn];exact o6) (CJ.set _ _) (λo=>?_) (λj b' s e1 e2=>YN b' s (D4.sl j b' s e1 e2)) (D4.ym.set ((bu (by simp)).trans (hcell 3 _ D4.ym.c3)) ((((bD.grown g5 (Z mP)).mono (by simp) (ζ _)).trans ((bD.set CJ ge 2 _).mono (by simp) (ζ _)):bD [some 248,some 288] N0 _ _).ly (by simp) D4.ym))
   ·rw[kn];exact fK c5
   ·rw[Ψ];exact(π (a:=⟨c,o,none⟩) hcb).trans (D4.cf o)
  ·exact((bD.below (Z jI)).trans ((bD.grown g5 (Z mP)).mono (by simp) (ζ _))).trans ((bD.set CJ ge 2 _).mono (by simp) (ζ _))
 go_ret;exact qF
end Sb
namespace Dz
open Fr Bd Zn
structure TB (w:World)(s z:Nat)(o:Int)(u:Bool):Prop where
 cz:w.cell? ⟨s,0,none⟩=some (ptr z)
 co:w.cell? ⟨s+1,0,none⟩=some (.int .i64 o)
 cu:w.cell? ⟨s+2,0,none⟩=some (.bool u)
 Y:PB w (s+3)
 lt:s+3<w.heap.size
theorem TB.b {w w':World}{s z:Nat}{o:Int}{u:Bool}(h:TB w s z o u)(J:Below w.heap.size w w'):TB w' s z o u:=by
 have:=h.lt;exact⟨(J.cell (p:=⟨s,0,none⟩) (by simp only;omega)).trans h.cz,(J.cell (p:=⟨s+1,0,none⟩) (by simp only;omega)).trans h.co,(J.cell (p:=⟨s+2,0,none⟩) (by simp only;omega)).trans h.cu,h.Y.b J,ι h.lt J.size⟩
abbrev Pc (w:World)(z:Nat)(o:Int)(u:Bool):World:=(((w.alloc (.cells #[.pointer (some ⟨z,0,none⟩)] 124)).alloc (.cells #[.int .i64 o] 3)).alloc (.cells #[.bool u] 4)).alloc (.cells #[.int .i64 0,.int .i64 0,.int .i64 0] 293)
theorem AG (w:World)(z:Nat)(o:Int)(u:Bool):TB (Pc w z o u) w.heap.size z o u/\Below w.heap.size w (Pc w z o u):=by
 unfold Pc;have s1:(w.alloc (.cells #[.pointer (some ⟨z,0,none⟩)] 124)).heap.size=w.heap.size+1:=by simp
 have q0:=θ w #[.pointer (some ⟨z,0,none⟩)] 124 0;have q1:=θ (w.alloc (.cells #[.pointer (some ⟨z,0,none⟩)] 124)) #[.int .i64 o] 3 0;have s2:((w.alloc (.cells #[.pointer (some ⟨z,0,none⟩)] 124)).alloc (.cells #[.int .i64 o] 3)).heap.size=w.heap.size+2:=by simp
 have q2:=θ ((w.alloc (.cells #[.pointer (some ⟨z,0,none⟩)] 124)).alloc (.cells #[.int .i64 o] 3)) #[.bool u] 4 0;have q3:=Av (((w.alloc (.cells #[.pointer (some ⟨z,0,none⟩)] 124)).alloc (.cells #[.int .i64 o] 3)).alloc (.cells #[.bool u] 4));have s3:(((w.alloc (.cells #[.pointer (some ⟨z,0,none⟩)] 124)).alloc (.cells #[.int .i64 o] 3)).alloc (.cells #[.bool u] 4)).heap.size=w.heap.size+3:=by simp
 have s4:((((w.alloc (.cells #[.pointer (some ⟨z,0,none⟩)] 124)).alloc (.cells #[.int .i64 o] 3)).alloc (.cells #[.bool u] 4)).alloc (.cells #[.int .i64 0,.int .i64 0,.int .i64 0] 293)).heap.size=w.heap.size+4:=by simp
 rw[s1]at q1;rw[s2]at q2;rw[s3]at q3;exact⟨⟨((χ (χ (χ (γ _ _) _) _) _).cell (p:=⟨w.heap.size,0,none⟩) (by rw[s1];simp)).trans q0,((χ (χ (γ _ _) _) _).cell (p:=⟨w.heap.size+1,0,none⟩) (by rw[s2];simp)).trans q1,((χ (γ _ _) _).cell (p:=⟨w.heap.size+2,0,none⟩) (by rw[s3];simp)).trans q2,q3,by rw[s4];omega⟩,χ (χ (χ (χ (γ _ _) _) _) _) _⟩
theorem gi {w w':World}{c:Nat}(h:Below w.heap.size w w')(K:w.heap.size<=c)(a b o:Value):Below w.heap.size w (((w'.setCell ⟨c,0,none⟩ a).setCell ⟨c,1,none⟩ b).setCell ⟨c,2,none⟩ o):=((h.setCell K a).setCell K b).setCell K o
theorem lS {W:World}{b:Nat}(P:PB W b)(x a o:Int):
  ((((W.setCell ⟨b,0,none⟩ (.int .i64 x)).setCell ⟨b,1,none⟩ (.int .i64 a)).setCell ⟨b,2,none⟩ (.int .i64 o)).cell? ⟨b,0,none⟩=some (.int .i64 x)) /\
  ((((W.setCell ⟨b,0,none⟩ (.int .i64 x)).setCell ⟨b,1,none⟩ (.int .i64 a)).setCell ⟨b,2,none⟩ (.int .i64 o)).cell? ⟨b,1,none⟩=some (.int .i64 a)) /\
  ((((W.setCell ⟨b,0,none⟩ (.int .i64 x)).setCell ⟨b,1,none⟩ (.int .i64 a)).setCell ⟨b,2,none⟩ (.int .i64 o)).cell? ⟨b,2,none⟩=some (.int .i64 o)):=
 ⟨by rw[bu (by simp),bu (by simp)];exact fK P.c0,by rw[bu (by simp)];exact fK (by rw[bu (by simp)];exact P.c1),fK (by rw[bu (by simp),bu (by simp)];exact P.c2)⟩
theorem od {W:World}{b:Nat}{g:Addr}{v:Value}(h:W.cell? g=some v)(hg:g.block≠b)(x a o:Value):(((W.setCell ⟨b,0,none⟩ x).setCell ⟨b,1,none⟩ a).setCell ⟨b,2,none⟩ o).cell? g=some v:=by
 rw[bu (λe=>hg (by rw[<- e])),bu (λe=>hg (by rw[<- e])),bu (λe=>hg (by rw[<- e]))];exact h
end Dz
end Go.Proofs.YtcbmfakjfoggaaaGreatDoor
