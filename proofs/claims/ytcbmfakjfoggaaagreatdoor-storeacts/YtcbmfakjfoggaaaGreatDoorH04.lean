/- H04 -/
import Derived.Test.YtcbmfakjfoggaaaGreatDoorA0
import Derived.Test.YtcbmfakjfoggaaaGreatDoorH00
set_option maxHeartbeats 0
namespace Go.Proofs.YtcbmfakjfoggaaaGreatDoor
open Go.Maps _root_.Go.Proofs.Tryz Go.RowKit
namespace Bd
open Fr
variable {w w':World}{g i j:Nat}{L R:List Bl}{v:Value}{o:Int}
structure Row (w:World)(g:Nat)(R:List Bl):Prop where
 c:∀i,i<R.length->w.cell? ⟨g,i*2,none⟩=some (.int .i64 (R.getD i (0,0)).1)/\w.cell? ⟨g,i*2+1,none⟩=some (.int .i64 (R.getD i (0,0)).2)
 fz:∀o,o<R.length*2->w.frozen? ⟨g,o,none⟩=false
 lt:g<w.heap.size
theorem Row.b (h:Row w g R)(J:Below w.heap.size w w'):Row w' g R :=
 ⟨λi hi=>⟨(J.cell (p:=⟨g,i*2,none⟩) h.lt).trans (h.c i hi).1,(J.cell (p:=⟨g,i*2+1,none⟩) h.lt).trans (h.c i hi).2⟩,λo ho=>(J.frozen (p:=⟨g,o,none⟩) h.lt).trans (h.fz o ho),ι h.lt J.size⟩
theorem oQ {B:Nat}(h:w.ownsRow B 291 2 v L.length (flat L))(hL:L≠[]):∃g cap,v=.slice (some ⟨g,0,none⟩) L.length cap/\B<=g/\L.length<=cap/\cap<=maxLen/\Row w g L:=by
 rcases h.2 with⟨_,h0⟩|⟨g,cap,cur,rfl,J,hg,hle,gB,hcs,hx⟩
 ·exact absurd (bf.1 h0) hL
 ·have hlt:g<w.heap.size:=by
   rcases bC g w.heap.size with h'|h'
   ·exact h'
   ·rw[cx h']at hg;cases hg
  refine⟨g,cap,rfl,J,hle,gB,λi hi=>?_,λo _=>by simp[World.frozen?,hg],hlt⟩;have hf:=gO L i hi;rw[au,ξ hi,bY];rw[dZ i 2];exact⟨(h.cellAt (2*i) (by omega)).trans hf.1,(h.cellAt (2*i+1) (by omega)).trans hf.2⟩
theorem qA (a k o:Int)(cb:Nat)(w:World)(K:w.cell? ⟨cb,0,none⟩=some (.int .i64 o))(hlt:cb<w.heap.size):
  Calls prog 294 #[fJ a k,.pointer (some ⟨cb,0,none⟩)] w λev w'=>ev=.returned (.bool (decide (k<o)))/\w'=w.alloc (bV a k):=by
 have hc2:(w.alloc (bV a k)).cell? ⟨cb,0,none⟩=some (.int .i64 o):=((χ (γ _ _) _).cell (p:=⟨cb,0,none⟩) hlt).trans K;clear K;go_enter func294,ntmps294;go_wp2;go_ret;exact⟨rfl,rfl⟩
theorem GV (L:List Bl)(g cap cb:Nat)(o:Int)(w:World)(hr:Row w g L)(hl:L.length<=256)(K:w.cell? ⟨cb,0,none⟩=some (.int .i64 o))(hlt:cb<w.heap.size):
  Calls prog 257 #[.slice (some ⟨g,0,none⟩) L.length cap,.func (.func 294) #[] #[.pointer (some ⟨cb,0,none⟩)]] w λev w'=>Below w.heap.size w w' /\
   ((ev=.returned (.int .i64 (-1))/\∀j,j<L.length->o<=(L.getD j (0,0)).2)\/∃i:Nat,i<L.length/\ev=.returned (.int .i64 i)/\(L.getD i (0,0)).2<o/\∀j,j<i->o<=(L.getD j (0,0)).2):=by
 have HR:=I hr;clear hr;generalize hn:L.length=n at*;go_enter func257,ntmps257;go_wp2;go_loopw [8] (λs wr=>∃i:Nat,s=.int .i64 i/\i<=n/\Below w.heap.size w wr/\Hid (∀j,j<i->o<=(L.getD j (0,0)).2)) (λs _=>n-(intOf s).toNat)
 case atStart=>exact⟨0,rfl,Γ _,γ _ _,λj E=>by omega⟩
 case round =>
  obtain⟨i,rfl,hi,J,ha⟩:=hrel;by_cases eY:i<n
  ·have hcb:=(J.cell (p:=⟨cb,0,none⟩) hlt).trans K;have hz:=J.size;have cc:=((Z HR).b J).c i (by omega);have HX:=I (show o<=(L.getD i (0,0)).2\/(L.getD i (0,0)).2<o by omega);obtain⟨c1,c2⟩:=cc;obtain⟨x,hx⟩:∃x,x=L.getD i (0,0):=⟨_,rfl⟩;rw[<- hx]at c1 c2 HX;have UL:=I hx;clear hx;obtain⟨x1,x2⟩:=x;simp only at c1 c2 HX;rcases Z HX with D|D
   ·have hd:decide (x2<o)=false:=by simp;omega
    go_wp2_with fail;refine(qA x1 x2 o cb _ hcb (by omega)).mono ?_;rintro ev w2⟨rfl,rfl⟩;go_wp2_with fail;go_roundw;case rel=>exact⟨i+1,by go_num,by omega,χ J _,λj E=>by
     by_cases e:j=i
     ·subst e;rw[<- Z UL];exact D
     ·exact(Z ha) j (by omega)⟩
    case measure=>simp[intOf];omega
   ·have hd:decide (x2<o)=true:=by simp;omega
    go_wp2_with fail;refine(qA x1 x2 o cb _ hcb (by omega)).mono ?_;rintro ev w2⟨rfl,rfl⟩;go_wp2_with fail;go_ret;exact⟨χ J _,δ ⟨i,by omega,rfl,by rw[<- Z UL];exact D,Z ha⟩⟩
  ·have nN:i=n:=by omega
   subst nN;go_wp2;go_ret;exact⟨J,ε ⟨rfl,Z ha⟩⟩
theorem bu {a b:Addr}(h:a≠b):(w.setCell a v).cell? b=w.cell? b:=by
 apply World.cell?_setCell_other;exact h
theorem fK {a:Addr}{u:Value}(h:w.cell? a=some u):(w.setCell a v).cell? a=some v:=by
 apply World.cell?_setCell_same;exact h
theorem Row.two (h:Row w g R)(hi:i<R.length)(a k:Int):Row ((w.setCell ⟨g,i*2,none⟩ (.int .i64 a)).setCell ⟨g,i*2+1,none⟩ (.int .i64 k)) g (R.set i (a,k)):=by
 refine⟨λj E=>?_,λo ho=>by simp only[Ψ];exact h.fz o (by simpa using ho),by simpa[World.setCell]using h.lt⟩;have hj':j<R.length:=by simpa using E
 have K:=h.c j hj';by_cases e:j=i
 ·subst e;have e1:(R.set j (a,k)).getD j (0,0)=(a,k):=by simp[List.getD_eq_getElem?_getD,hj']
  rw[e1];constructor
  ·rw[bu (by simp),fK K.1]
  ·exact fK (u:=.int .i64 (R.getD j (0,0)).2) (by rw[bu (by simp)];exact K.2)
 ·have e1:(R.set i (a,k)).getD j (0,0)=R.getD j (0,0):=by simp[List.getD_eq_getElem?_getD,Ne.symm e]
  rw[e1];constructor
  ·rw[bu (by simp<;>omega),bu (by simp<;>omega)];exact K.1
  ·rw[bu (by simp<;>omega),bu (by simp<;>omega)];exact K.2
theorem bA (w:World)(o:Nat)(v:Value):Kept g g w (w.setCell ⟨g,o,none⟩ v):=
 ⟨rfl,rfl,rfl,by simp[World.setCell],λk _ G _=>μ _ _ _ _ G⟩
structure KI (o:Int)(L R:List Bl)(i j:Nat):Prop where
 len:R.length=L.length
 lt:i<j
 le:j<=L.length
 took:R.take i=(L.take j).filter (λx=>decide (o<=x.2))
 rest:∀m,j<=m->R.getD m (0,0)=L.getD m (0,0)
theorem getD_lt (h:i<L.length):L.getD i (0,0)=L[i]:=by rw[au,ξ h,bY]
theorem KI.start (hi:i<L.length)(G:(L.getD i (0,0)).2<o)(O:∀j,j<i->o<=(L.getD j (0,0)).2):KI o L L i (i+1):=by
 refine⟨rfl,by omega,by omega,?_,λ_ _=>rfl⟩;rw[aL hi,cE];rw[getD_lt hi]at G;have e1:(L.take i).filter (λx=>decide (o<=x.2))=L.take i:=cG.2 (λx hx=>by
  obtain⟨m,hm,rfl⟩:=bU hx;have sB:m<i:=by simp at hm;omega
  have:=O m sB;rw[getD_lt (by omega)]at this;simpa using this)
 rw[e1];simp[show ¬o<=L[i].2 by omega]
theorem KI.skip (h:KI o L R i j)(E:j<L.length)(G:(L.getD j (0,0)).2<o):KI o L R i (j+1):=by
 refine⟨h.len,by have:=h.lt;omega,by omega,?_,λm hm=>h.rest m (by omega)⟩;rw[aL E,cE,h.took];rw[getD_lt E]at G;simp[show ¬o<=L[j].2 by omega]
theorem KI.keep (h:KI o L R i j)(E:j<L.length)(G:o<=(L.getD j (0,0)).2):KI o L (R.set i (L.getD j (0,0))) (i+1) (j+1):=by
 have hl:=h.len;have hlt:=h.lt;refine⟨by simpa using h.len,by omega,by omega,?_,λm hm=>?_⟩
 ·rw[aL E,cE,<- h.took];rw[getD_lt E]at G ⊢;rw[aL (by simp;omega)];rw[List.take_set,bZ,af (by simpa using G)];simp;exact List.set_eq_of_length_le (by simp;omega)
 ·rw[<- h.rest m (by omega)];simp[List.getD_eq_getElem?_getD,show i≠m by omega]
theorem KI.done (h:KI o L R i L.length):R.take i=L.filter (λx=>decide (o<=x.2))/\i=(L.filter (λx=>decide (o<=x.2))).length:=by
 have e:=h.took;rw[b_]at e;refine⟨e,?_⟩;rw[<- e,cI,h.len];have:=h.lt;omega
theorem zeros (n:Nat):(Builtin.zeroCells #[.int .i64 0,.int .i64 0] n).toList=List.replicate (n*2) (.int .i64 0):=by
 simp[Builtin.zeroCells];apply List.ext_getElem
 ·simp
 ·intro i G O;simp;have:i%2=0\/i%2=1:=by omega
  rcases this with e|e<;>simp[e]
theorem Ea (w:World)(g i n c ty:Nat)(R:List Bl)(hr:Row w g R)(hi:i<R.length)(hn:n=R.length-i):
  (Builtin.clear_ #[322] ty #[.slice (some ⟨g,i*2,none⟩) n c]).run prog w=.ok (.tuple #[]) (w.setCells g (i*2) (List.replicate (n*2) (.int .i64 0))):=by
 have hst:=run_storeCells_cells (P:=prog) g (i*2) (List.replicate (n*2) (.int .i64 0)) 0 w (λj E=>by
  simp at E;have e:i*2+0+j=(i+j/2)*2+j%2:=by omega
  have K:=hr.c (i+j/2) (by omega);rw[e];rcases(by omega:j%2=0\/j%2=1)with h|h
  ·rw[h];simp[K.1]
  ·rw[h];simp[K.2]) (λj E=>hr.fz _ (by simp at E;omega)) (by intro v hv';rw[List.eq_of_mem_replicate hv'];rfl)
 simp only[gD]at hst;obtain⟨m,rfl⟩:∃m,n=m+1:=⟨n-1,by omega⟩;have hz:∀w,(zeroValue 291).run prog w=.ok (.agg #[.int .i64 0,.int .i64 0]) w:=λw=>by kernel_rfl
 have hcs:(Value.agg #[.int .i64 0,.int .i64 0]).cells=#[.int .i64 0,.int .i64 0]:=rfl;simp[Builtin.clear_,run_underlying underlying322,hz,hcs,zeros,hst]
theorem jY :∀(vs:List Value) (o:Nat) (w:World),Kept g g w (w.setCells g o vs)
 |[],_,_=>Kept.refl _ _ _
 |v::r,o,w=>(bA w o v).trans (jY r (o+1) _)
theorem Row.cleared (h:Row w g R)(i:Nat)(hi:i<=R.length)(vs:List Value):Row (w.setCells g (i*2) vs) g (R.take i):=by
 refine⟨λj E=>?_,λo ho=>?_,?_⟩
 ·have hj':j<i/\j<R.length:=by simp at E;omega
  have K:=h.c j hj'.2;have e1:(R.take i).getD j (0,0)=R.getD j (0,0):=by simp[List.getD_eq_getElem?_getD,hj'.1]
  rw[e1,fe g vs _ _ _ (λ_ _=>ε (by simp only;omega)),fe g vs _ _ _ (λ_ _=>ε (by simp only;omega))];exact K
 ·rw[fI];exact h.fz o (by simp at ho;omega)
 ·have:=(jY (g:=g) vs (i*2) w).size;have:=h.lt;omega
theorem Eb (L:List Bl)(g cap cb:Nat)(o:Int)(w:World)(hr:Row w g L)(hl:L.length<=256)(gB:L.length<=cap)(K:w.cell? ⟨cb,0,none⟩=some (.int .i64 o))(hlt:cb<w.heap.size)(hne:cb≠g):
  Calls prog 293 #[.slice (some ⟨g,0,none⟩) L.length cap,.func (.func 294) #[] #[.pointer (some ⟨cb,0,none⟩)]] w λev w'=>Kept g g w w' /\
   ∃M,M=L.filter (λx=>decide (o<=x.2))/\ev=.returned (.slice (some ⟨g,0,none⟩) M.length cap)/\Row w' g M:=by
 have HI:=I (GV L g cap cb o w hr hl K hlt);have HR:=I hr;have sD:=hr.lt;clear hr;generalize hn:L.length=n at*;have HN:=I hn;go_enter func293,ntmps293;go_wp2_with fail;refine(Z HI).mono ?_;rintro ev w1⟨hb1,⟨rfl,ha⟩|⟨i0,eO,rfl,G,O⟩⟩
 ·have HA:=I ha;clear ha HI;have qT:((-1:Int) == -1)=true:=rfl;go_wp2;go_ret;have e:L.filter (λx=>decide (o<=x.2))=L:=cG.2 (λx hx=>by
   obtain⟨m,hm,rfl⟩:=bU hx;have:=(Z HA) m (by omega);rw[getD_lt hm]at this;simpa using this)
  exact⟨dY hb1,L,e.symm,by rw[hn];rfl,(Z HR).b hb1⟩
 ·have K0:=I (KI.start (o:=o) (by omega:i0<L.length) G O);have R0:=I ((Z HR).b hb1);have hz1:=hb1.size;have B1:=I hb1;have QF:=(hb1.cell (p:=⟨cb,0,none⟩) hlt).trans K;clear G O HI hb1 K;have qT:((i0:Int) == -1)=false:=beq_eq_false_iff_ne.2 (by omega);go_wp2;go_loopw [5,6,7] (λs5 s6 _ wr=>∃(i j:Nat) (R:List Bl),s5=.int .i64 i/\s6=.int .i64 j/\i<j/\j<=n/\Hid (KI o L R i j)/\Hid (Row wr g R)/\Kept g g w1 wr) (λ_ s6 _ _=>n-(intOf s6).toNat)
  case atStart=>exact⟨i0,i0+1,L,rfl,by go_num,by omega,by omega,K0,R0,Kept.refl _ _ _⟩
  case round =>
   obtain⟨i,j,R,rfl,rfl,Ec,pS,hK,uU,D⟩:=hrel;have hRl:R.length=n:=by rw[(Z hK).len];exact hn
   by_cases aad:j<n
   ·have cc:=(Z uU).c j (by omega);have ci:=(Z uU).c i (by omega);have f1:=(Z uU).fz (i*2) (by omega);have f2:=(Z uU).fz (i*2+1) (by omega);have hcw:wr.cell? ⟨cb,0,none⟩=some (.int .i64 o):=(D.cell (p:=⟨cb,0,none⟩) (by simp only;omega) hne hne).trans QF;have hz2:=D.size;have KD:=(Z uU).lt;rw[(Z hK).rest j (ζ _)]at cc;obtain⟨x,hx⟩:∃x,x=L.getD j (0,0):=⟨_,rfl⟩;rw[<- hx]at cc;have HX:=I hx;clear hx;obtain⟨x1,x2⟩:=x;generalize R.getD i (0,0)=y at ci;obtain⟨c1,c2⟩:=cc;obtain⟨i1,i2⟩:=ci;simp only at c1 c2;have GW:(wr.alloc (bV x1 x2)).cell? ⟨cb,0,none⟩=some (.int .i64 o):=((χ (γ _ _) _).cell (p:=⟨cb,0,none⟩) (by simp only;omega)).trans hcw;by_cases mM:x2<o
    ·have hd:decide (x2<o)=true:=by simpa using mM
     go_wp2_with fail;refine(qA x1 x2 o cb _ GW (by simp;omega)).mono ?_;rintro ev w3⟨rfl,rfl⟩;go_wp2_with fail;go_roundw;case rel =>
      have b2:=χ (χ (γ _ wr) (bV x1 x2)) (bV x1 x2);exact⟨i,j+1,R,rfl,by go_num,by omega,by omega,(Z hK).skip (by omega) (by rw[<- Z HX];exact mM),(Z uU).b b2,D.trans (dY b2)⟩
     case measure=>simp[intOf];omega
    ·have hd:decide (x2<o)=false:=by simpa using mM
     have s1:=χ (χ (γ _ wr) (bV x1 x2)) (bV x1 x2);have t1:=(s1.cell (p:=⟨g,i*2,none⟩) KD).trans i1;have t2:=(s1.cell (p:=⟨g,i*2+1,none⟩) KD).trans i2;have t3:=(s1.frozen (p:=⟨g,i*2,none⟩) KD).trans f1;have t4:=(s1.frozen (p:=⟨g,i*2+1,none⟩) KD).trans f2;have eY:i<n:=by omega
     go_wp2_with fail;refine(qA x1 x2 o cb _ GW (by simp;omega)).mono ?_;rintro ev w3⟨rfl,rfl⟩;go_wp2_with fail;go_roundw;case rel =>
      have r2:=(Z uU).two (i:=i) (by omega) x1 x2;have s2:=χ (χ (γ _ ((wr.setCell ⟨g,i*2,none⟩ (.int .i64 x1)).setCell ⟨g,i*2+1,none⟩ (.int .i64 x2))) (bV x1 x2)) (bV x1 x2);refine⟨i+1,j+1,R.set i (x1,x2),by go_num,by go_num,by omega,by omega,?_,r2.b s2,D.trans (((bA _ _ _).trans (bA _ _ _)).trans (dY s2))⟩;have:=(Z hK).keep (by omega) (by rw[<- Z HX];simp only;omega);rwa [<- Z HX]at this
     case measure=>simp[intOf];omega
   ·have kq:j=n:=by omega
    subst kq;have Lr:=(Z hK);rw[<- hn]at Lr;obtain⟨d1,d2⟩:=Lr.done;have Ls:=I d1;have GX:=I d2;clear Lr d1 d2;have eY:i<j:=Ec;have eR:=λty=>Ea wr g i (j-i) (cap-i) ty R (Z uU) (by omega) (by omega);go_wp2;go_ret;refine⟨(dY (Z B1)).trans (D.trans (jY _ _ _)),_,rfl,by rw[<- Z GX];rfl,?_⟩;rw[<- Z Ls];exact(Z uU).cleared i (by omega) _
structure Bx (w:World)(b:Nat)(x:Bl):Prop where
 c0:w.cell? ⟨b,0,none⟩=some (.int .i64 x.1)
 c1:w.cell? ⟨b,1,none⟩=some (.int .i64 x.2)
 f0:w.frozen? ⟨b,0,none⟩=false
 f1:w.frozen? ⟨b,1,none⟩=false
 lt:b<w.heap.size
theorem ix (w:World)(x:Bl):Bx (w.alloc (bV x.1 x.2)) w.heap.size x:=⟨by simp,by simp,by simp,by simp,by simp⟩
theorem Bx.b {b:Nat}{x:Bl}(h:Bx w b x)(J:Below w.heap.size w w'):Bx w' b x :=
 ⟨(J.cell (p:=⟨b,0,none⟩) h.lt).trans h.c0,(J.cell (p:=⟨b,1,none⟩) h.lt).trans h.c1,(J.frozen (p:=⟨b,0,none⟩) h.lt).trans h.f0,(J.frozen (p:=⟨b,1,none⟩) h.lt).trans h.f1,ι h.lt J.size⟩
theorem Bx.a {b:Nat}{x:Bl}(h:Bx w b x)(o:Obj):Bx (w.alloc o) b x:=h.b (χ (γ _ _) o)
theorem Bx.set {b:Nat}{x:Bl}(h:Bx w b x)(y:Bl):Bx ((w.setCell ⟨b,0,none⟩ (.int .i64 y.1)).setCell ⟨b,1,none⟩ (.int .i64 y.2)) b y :=
 ⟨by rw[bu (by simp)];exact fK h.c0,fK (u:=.int .i64 x.2) (by rw[bu (by simp)];exact h.c1),by simp only[Ψ];exact h.f0,by simp only[Ψ];exact h.f1,by simpa[World.setCell]using h.lt⟩
theorem Bx.off {b c:Nat}{x:Bl}(h:Bx w b x)(hne:b≠c)(o:Nat)(v:Value):Bx (w.setCell ⟨c,o,none⟩ v) b x :=
 ⟨by rw[bu (by simp<;>omega)];exact h.c0,by rw[bu (by simp<;>omega)];exact h.c1,by simp only[Ψ];exact h.f0,by simp only[Ψ];exact h.f1,by simpa[World.setCell]using h.lt⟩
def jf (a b:Int):Int:=if a<b then -1 else if b<a then 1 else 0
theorem mZ (a b : Int) (w : World) : Calls prog 199 #[.int .i64 a, .int .i64 b] w fun ev w' => ev = .returned (.int .i64 (jf a b)) ∧ w' = w := by
  have n1 : (a != a) = false := by simp
  have n2 : (b != b) = false := by simp
  unfold jf
  by_cases G : a < b
  · have d1 : decide (a < b) = true := by simpa using G
    rw [af G]
    go_enter func199, ntmps199
    go_wp2
    go_ret
    exact ⟨rfl, rfl⟩
  · have d1 : decide (a < b) = false := by simpa using G
    rw [ai G]
    by_cases O : b < a
    · have d2 : decide (b < a) = true := by simpa using O
      rw [af O]
      go_enter func199, ntmps199
      go_wp2
      go_ret
      exact ⟨rfl, rfl⟩
    · have d2 : decide (b < a) = false := by simpa using O
      rw [ai O]
      go_enter func199, ntmps199
      go_wp2
      go_ret
      exact ⟨rfl, rfl⟩
theorem QG (x y:Bl)(w:World):Calls prog 296 #[fJ x.1 x.2,fJ y.1 y.2] w λev w'=>ev=.returned (.int .i64 (jf x.2 y.2))/\w'=(w.alloc (bV x.1 x.2)).alloc (bV y.1 y.2):=by
 obtain⟨a,k⟩:=x;obtain⟨a',k'⟩:=y;simp only;have H:=λw=>I (mZ k k' w);generalize jf k k'=c at*;go_enter func296,ntmps296;go_wp2_with (go_at_call 199;refine(Z (H _)).mono ?_;rintro ev w1⟨rfl,rfl⟩);go_ret;exact⟨rfl,rfl⟩
def pk (L:List Bl):Nat->Bl
 |0=>L.getD 0 (0,0)
 |j+1=>if(L.getD (j+1) (0,0)).2<(pk L j).2 then L.getD (j+1) (0,0)else pk L j
theorem QH (L:List Bl)(g cap:Nat)(w:World)(hr:Row w g L)(hl:L.length<=256)(h0:0<L.length):
  Calls prog 295 #[.slice (some ⟨g,0,none⟩) L.length cap,.func (.func 296) #[] #[]] w λev w'=>ev=.returned (fJ (pk L (L.length-1)).1 (pk L (L.length-1)).2)/\Below w.heap.size w w':=by
 have HR:=I hr;have c0:=(hr.c 0 h0);have sD:=hr.lt;generalize hn:L.length=n at*;have hx0:L.getD 0 (0,0)=pk L 0:=rfl;rw[hx0]at c0;obtain⟨x0,hx⟩:∃x,x=pk L 0:=⟨_,rfl⟩;rw[<- hx]at c0;have HX:=I hx;clear hr hx0 hx;obtain⟨a,k⟩:=x0;obtain⟨c1,c2⟩:=c0;simp only[Nat.zero_mul,bj]at c1 c2;have Lt:decide ((n:Int)<1)=false:=by simp;omega
 go_enter func295,ntmps295;go_wp2;go_loopw [6] (λs6 wr=>∃(j:Nat),s6=.int .i64 j/\1<=j/\j<=n/\Hid (Bx wr w.heap.size (0,0))/\Hid (Bx wr (w.heap.size+1) (pk L (j-1)))/\Below w.heap.size w wr) (λs6 _=>n-(intOf s6).toNat)
 case atStart =>
  refine⟨1,rfl,by omega,by omega,?_,?_,χ (χ (γ _ _) _) _⟩
  ·exact(ix w (0,0)).a _
  ·rw[<- Z HX];have:=ix (w.alloc (bV 0 0)) (a,k);rw[show(w.alloc (bV 0 0)).heap.size=w.heap.size+1 by simp]at this;exact this
 case round =>
  obtain⟨j,rfl,hj1,E,h4,h5,J⟩:=hrel;by_cases pS:j<n
  ·have cc:=((Z HR).b J).c j (by omega);have hm:=Z h5;obtain⟨x,hx⟩:∃x,x=L.getD j (0,0):=⟨_,rfl⟩;rw[<- hx]at cc;obtain⟨m,f_⟩:∃m,m=pk L (j-1):=⟨_,rfl⟩;rw[<- f_]at hm h5;have HP:=I (show pk L j=if x.2<m.2 then x else m by
    obtain⟨i,rfl⟩:∃i,j=i+1:=⟨j-1,by omega⟩;rw[hx,f_];rfl)
   clear hx f_;have hc0:=hm.c0;have hc1:=hm.c1;have Oz:=hm.f0;have Gl:=hm.f1;have nO:=hm.lt;have H:=λw=>I (QG x m w);clear hm;obtain⟨x1,x2⟩:=x;obtain⟨m1,m2⟩:=m;obtain⟨c3,c4⟩:=cc;simp only at c3 c4 hc0 hc1 H HP;have abp:(0:Int)<=j:=by omega
   have Ed:(j:Int)<n:=by omega
   have hgr:g<wr.heap.size:=by have:=J.size;omega
   by_cases hlt:x2<m2
   ·have hcv:jf x2 m2 = -1:=by unfold jf;rw[af hlt]
    rw[hcv]at H;rw[af hlt]at HP;go_wp2;go_region_held3 (λw'=>w'.cell? ⟨g,j*2,none⟩=some (.int .i64 x1)/\w'.cell? ⟨g,j*2+1,none⟩=some (.int .i64 x2)/\w'.cell? ⟨w.heap.size+1,0,none⟩=some (.int .i64 m1)/\w'.cell? ⟨w.heap.size+1,1,none⟩=some (.int .i64 m2)) (go_keep) ((go_at_call 296;refine(Z (H _)).mono ?_;rintro ev w'⟨rfl,rfl⟩));have B2:Below wr.heap.size wr ((wr.alloc (bV x1 x2)).alloc (bV m1 m2)).drew:=(χ (χ (γ _ _) _) _).drew;generalize((wr.alloc (bV x1 x2)).alloc (bV m1 m2)).drew=W at*;have e3:=(B2.cell (p:=⟨g,j*2,none⟩) hgr).trans c3;have e4:=(B2.cell (p:=⟨g,j*2+1,none⟩) hgr).trans c4;have X5:=I ((Z h5).b B2);have q0:=(Z X5).c0;have q1:=(Z X5).c1;have q2:=(Z X5).f0;have q3:=(Z X5).f1;clear c3 c4 hc0 hc1 Oz Gl;simp only at q0 q1;go_wp2;go_roundw;case rel=>exact⟨j+1,by go_num,by omega,by omega,(((Z h4).b B2).off (by omega) _ _).off (by omega) _ _,(by rw[Nat.add_sub_cancel,Z HP];exact(Z X5).set (x1,x2)),((bW J B2).setCell (by simp) _).setCell (by simp) _⟩
    case measure=>simp[intOf];omega
   ·have hcv:decide (jf x2 m2<0)=false:=by unfold jf;rw[ai hlt];split<;>simp
    rw[ai hlt]at HP;generalize jf x2 m2=cv at*;go_wp2;go_region_held3 (λw'=>w'.cell? ⟨g,j*2,none⟩=some (.int .i64 x1)/\w'.cell? ⟨g,j*2+1,none⟩=some (.int .i64 x2)/\w'.cell? ⟨w.heap.size+1,0,none⟩=some (.int .i64 m1)/\w'.cell? ⟨w.heap.size+1,1,none⟩=some (.int .i64 m2)) (go_keep) ((go_at_call 296;refine(Z (H _)).mono ?_;rintro ev w'⟨rfl,rfl⟩));have B2:Below wr.heap.size wr ((wr.alloc (bV x1 x2)).alloc (bV m1 m2)).drew:=(χ (χ (γ _ _) _) _).drew;generalize((wr.alloc (bV x1 x2)).alloc (bV m1 m2)).drew=W at*;have e3:=(B2.cell (p:=⟨g,j*2,none⟩) hgr).trans c3;have e4:=(B2.cell (p:=⟨g,j*2+1,none⟩) hgr).trans c4;have X5:=I ((Z h5).b B2);have q0:=(Z X5).c0;have q1:=(Z X5).c1;have q2:=(Z X5).f0;have q3:=(Z X5).f1;clear c3 c4 hc0 hc1 Oz Gl;simp only at q0 q1;go_wp2;go_roundw;case rel=>exact⟨j+1,by go_num,by omega,by omega,(Z h4).b B2,(by rw[Nat.add_sub_cancel,Z HP];exact Z X5),bW J B2⟩
    case measure=>simp[intOf];omega
  ·have kq:j=n:=by omega
   subst kq;have X4:=Z h4;have X5:=Z h5;have q0:=X5.c0;have q1:=X5.c1;have p0:=X4.c0;have p1:=X4.c1;have g0:=X4.f0;have g1:=X4.f1;clear X4 X5 h4 h5;obtain⟨m,hm⟩:∃m,m=pk L (j-1):=⟨_,rfl⟩;rw[<- hm]at q0 q1;have HM:=I hm;clear hm;obtain⟨m1,m2⟩:=m;simp only at q0 q1 p0 p1;go_wp2;have r0:=fK (v:=.int .i64 m1) p0;exact Θ (v:=fJ m1 m2) (by simp[results,results295,go_sem,p0,p1]) rfl ⟨by rw[<- Z HM],(J.setCell (by simp) _).setCell (by simp) _⟩
end Bd
end Go.Proofs.YtcbmfakjfoggaaaGreatDoor
