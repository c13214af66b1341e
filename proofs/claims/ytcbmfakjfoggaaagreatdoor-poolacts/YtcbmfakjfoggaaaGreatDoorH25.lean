/- H25 -/
import Derived.Test.YtcbmfakjfoggaaaGreatDoorA0
import Derived.Test.YtcbmfakjfoggaaaGreatDoorH22
set_option maxHeartbeats 0
set_option maxRecDepth 100000
namespace Go.Proofs.YtcbmfakjfoggaaaGreatDoor
open _root_.Go.Proofs.Tryz Go.RowKit Go.Maps
namespace Sb
open Fr Bd Zn Dz
structure Uo (w:World)(m:Nat)(sz:Int)(Q:List Sl)(i j:Nat)(v:Value)(W:World):Prop where
 b:Below w.heap.size w W
 o:W.ownsRow w.heap.size 34 2 v (mQ m Q i+pop (Q.getD i default).bm j) (flat (oI m sz Q i++py sz (Q.getD i default) j))
theorem rU (N0:Nat)(c z:Nat)(sz:Int)(m:Nat)(bs ts:List Nat)(Q:List Sl)(w:World)(h:RC N0 w c z sz m bs ts Q)(eH:∀s∈Q,KP m s)(f_:1<=sz/\sz<=64/\(m:Int)=64/sz)(hn:Q.length<=10000):
  Calls prog 158 #[ptr c] w λev w'=>∃v,ev=.returned v/\w'.ownsRow w.heap.size 34 2 v (mQ m Q Q.length) (flat (oI m sz Q Q.length))/\Below w.heap.size w w':=by
 obtain⟨i0,eO,hz0,hz1,hz2⟩:=aY kD;have HI:=I eO;have HZ:=I hz0;have eI:=I hz1;have eJ:=I hz2;clear eO hz0 hz1 hz2;obtain⟨p,d,e2,_⟩:=h.c2;have eR:=h.tg.lt;have H:=I h;have II:=I eH;rw[h.len]at e2;have AX:m<=64:=by
  have:(64:Int)/sz<=64:=Int.ediv_le_self _ (by omega);omega
 have H0:Hid (Uo w m sz Q 0 0 (.slice none 0 0) w):=⟨γ _ _,by simpa[mQ,pop,oI,py,flat]using Ξ w w.heap.size 34 2⟩;clear h eH;unfold ptr at*;go_enter func158,ntmps158;go_wp2_with fail;go_loopw [3,4] (λv a wr=>∃i:Nat,a=.int .i64 i/\i<=Q.length/\Hid (Uo w m sz Q i 0 v wr)) (λ_ a _=>Q.length-(intOf a).toNat)
 case atStart=>exact⟨0,rfl,Γ _,H0⟩
 case round =>
  clear H0;obtain⟨i,rfl,hi,hR⟩:=hrel;have oG:(0:Int)<=i:=by omega
  have e4:=((Z hR).b.cell (p:=⟨c,2,none⟩) eR).trans e2;by_cases eY:i<Q.length
  ·have hlt:(i:Int)<Q.length:=by omega
   obtain⟨b,t,s,eb,et,es,hS⟩:=(Z H).slab eY;obtain⟨g,d',xx,hg,cg⟩:=(Z H).row (by omega);rw[e2]at xx;simp only[τ,ψ,aZ]at xx;obtain⟨rfl,rfl⟩:=xx;have cgb:=cg i b eb;unfold ptr at cgb;have hbl:=hS.tg.lt;have uX:=hS.tt.lt;have A5:=(Z II) s (aH es);have I1:Q.getD i default=s:=getD_at es;have HK:Hid (∀W,Below w.heap.size w W->W.cell? ⟨c,2,none⟩=some (.slice (some ⟨g,0,none⟩) Q.length d)/\W.cell? ⟨c,1,none⟩=some (.int .i64 sz)/\W.cell? ⟨g,i,none⟩=some (.pointer (some ⟨b,0,none⟩))/\W.cell? ⟨b,0,none⟩=some (.int .i64 s.V)/\W.cell? ⟨b,1,none⟩=some (.int .i64 s.at_)):=λW hW =>
    ⟨(hW.cell (p:=⟨c,2,none⟩) eR).trans e2,(hW.cell (p:=⟨c,1,none⟩) eR).trans (Z H).c1,(hW.cell (p:=⟨g,i,none⟩) hg).trans cgb,(hW.cell (p:=⟨b,0,none⟩) hbl).trans hS.c0,(hW.cell (p:=⟨b,1,none⟩) hbl).trans hS.c1⟩
   have H1:=hR;clear hR;go_wp2_with fail;go_loopw [3,5] (λv a wr=>∃j:Nat,a=.int .i64 j/\j<=m/\Hid (Uo w m sz Q i j v wr)) (λ_ a _=>m-(intOf a).toNat)
   case atStart=>exact⟨0,rfl,Γ _,H1⟩
   case round =>
    clear H1 e4;obtain⟨j,rfl,E,hR⟩:=hrel;have hgj:(0:Int)<=j:=by omega
    have hB:=(Z hR).b;obtain⟨f2,f1,fg,f0,fa⟩:=(Z HK) wr hB;have f3:=(hB.cell (p:=⟨b,3,none⟩) hbl).trans hS.c3;by_cases Y0:j<m
    ·have qm:(j:Int)<m:=by omega
     have fr:=(hB.cell (p:=⟨t,j,none⟩) uX).trans (hS.row j Y0);have ho:=(Z hR).o;rw[I1]at ho;cases gZ:s.bm.testBit j with
     |false =>
      rw[gZ]at fr;have LN:Hid (Uo w m sz Q i (j+1) _ wr):=⟨hB,by rw[I1,pop,py,gZ];simpa using ho⟩;clear hR ho;go_wp2_with fail;go_roundw;case rel=>exact⟨j+1,by go_num,by omega,LN⟩
      case measure=>simp[intOf];omega
     |true =>
      rw[gZ]at fr;have xS:=jA f_.1 f_.2.2 Y0;have w1:IntKind.i64.wrap (s.at_*64)=s.at_*64:=aB _ (by have:=A5.1;have:=A5.2.1;omega);have w2:IntKind.i64.wrap ((j:Int)*sz)=(j:Int)*sz:=aB _ (by omega);have w3:IntKind.i64.wrap (s.at_*64+(j:Int)*sz)=s.at_*64+(j:Int)*sz:=aB _ (by have:=A5.1;have:=A5.2.1;omega);have hq:flat (oI m sz Q i++py sz (Q.getD i default) (j+1))=flat (oI m sz Q i++py sz s j)++[.int .i64 s.V,.int .i64 (s.at_*64+j*sz)]:=by
       rw[I1,py,gZ,af rfl,<- aJ,bM];rfl
      have xW:pop (Q.getD i default).bm (j+1)=pop s.bm j+1:=by rw[I1,pop,gZ];rfl
      have HQ:=I hq;have Gs:=I xW;have Y5:=pd m Q i;have OW:=fu s.bm j;have Pp:i*m<=10000*64:=gu (by omega) AX;have sG:mQ m Q i+pop s.bm j<=700000:=by omega
      have HMX:=I sG;have AW:Hid (∀W',Below wr.heap.size wr W'->W'.cell? ⟨c,2,none⟩=some (.slice (some ⟨g,0,none⟩) Q.length d)/\W'.cell? ⟨c,1,none⟩=some (.int .i64 sz)/\W'.cell? ⟨g,i,none⟩=some (.pointer (some ⟨b,0,none⟩))/\W'.cell? ⟨b,0,none⟩=some (.int .i64 s.V)/\W'.cell? ⟨b,1,none⟩=some (.int .i64 s.at_)):=λW' hW'=>(Z HK) W' (bW hB hW');have U0:=aN ho (dw wr);have HU:=I U0;have HB:=I hB;have HBW:=I (Z hR).b.size;generalize jP:mQ m Q i+pop s.bm j=nx at*;have oW:=I jP;have abN:=Z HMX;generalize Vs:flat (oI m sz Q i++py sz s j)=xs at*;clear hR ho hq xW Y5 OW Pp sG xS gZ jP Vs U0 hB;go_wp2_with fail;go_region_held_law (λW'=>W'.cell? ⟨c,2,none⟩=some (.slice (some ⟨g,0,none⟩) Q.length d)/\W'.cell? ⟨c,1,none⟩=some (.int .i64 sz)/\W'.cell? ⟨g,i,none⟩=some (.pointer (some ⟨b,0,none⟩))/\W'.cell? ⟨b,0,none⟩=some (.int .i64 s.V)/\W'.cell? ⟨b,1,none⟩=some (.int .i64 s.at_)) (first|exact(Z AW) _ (dw _)|exact(Z AW) _ (χ (dw _) _)|exact(Z HK) _ (by assumption)|(go_keep;done)) ((refine bX _ rfl (.tmp 43) (.tmp 76) 32 rfl w.heap.size 34 i0 (.agg #[.int .i64 0,.int .i64 0]) 2 16 underlying32 (Z HI) (Z HZ) (Z eI) (Z eJ) rfl (by decide) _ nx xs (by simp[Act.eval]) ((Z HU).alloc _) ⟨wr.heap.size,0,none⟩ 1 1 [.int .i64 s.V,.int .i64 (s.at_*64+j*sz)] (by simp[Act.eval]) rfl (by intro j u E;match j,E with|0,E=>(simp at E;subst E;simp[Addr.add])|1,E=>(simp at E;subst E;simp[Addr.add])) (by intro u hu;simp at hu;rcases hu with rfl|rfl<;>rfl) (by omega) (by have:=Z HMX;unfold maxLen;omega) (by omega) (by have:=Z HBW;simp;omega) _ rfl ?_;intro g4 c4 w4 o4 q4 _ _;have B4:Below w.heap.size w w4:=((bW (Z HB) (dw wr)).alloc (Z HBW) _).grown q4 (by have:=Z HBW;simp;omega) (bL (Z HU))));have HT:Hid (Uo w m sz Q i (j+1) (.slice (some ⟨g4,0,none⟩) (nx+1) c4) w4):=⟨B4,by rw[Z HQ,Z Gs,<- Nat.add_assoc,Z oW];exact o4⟩;clear B4 o4 q4;go_wp2_with fail;go_roundw;case rel=>exact⟨j+1,by go_num,by omega,HT⟩
      case measure=>simp[intOf];omega
    ·have qm:¬(j:Int)<m:=by omega
     obtain rfl:j=m:=by omega
     have LN:Hid (Uo w j sz Q (i+1) 0 _ wr):=⟨hB,by have:=(Z hR).o;rw[mQ,oI];simpa[pop,py]using this⟩;clear hR;go_wp2_with fail;go_roundw;case rel=>exact⟨i+1,by go_num,by omega,LN⟩
     case measure=>simp[intOf];omega
  ·have hlt:¬(i:Int)<Q.length:=by omega
   obtain rfl:i=Q.length:=by omega
   have J:=(Z hR).b;have ho:=(Z hR).o;simp only[gD,pop,py,dF]at ho;clear hR;go_wp2_with fail;go_ret;exact⟨_,rfl,ho,J⟩
theorem FD (N0:Nat)(c z:Nat)(sz:Int)(m:Nat)(bs ts:List Nat)(Q:List Sl)(w:World)(h:RC N0 w c z sz m bs ts Q)(p:Option Addr)(d:Nat)(e2:w.cell? ⟨c,2,none⟩=some (.slice p Q.length d))(hn:Q.length<=10000):
  Calls prog 162 #[.slice p Q.length d] w λev w'=>∃v,ev=.returned v/\w'.ownsRow w.heap.size 293 3 v Q.length (sY Q Q.length)/\Below w.heap.size w w':=by
 have HR:=I (λi (hi:i<Q.length)=>h.slab hi);have HW:=I (λ(hi:0<Q.length)=>h.row hi);have H0:Hid (Up w Q 0 (.slice none 0 0) w):=⟨γ _ _,Ξ _ _ _ _⟩;obtain⟨i0,eO,hz0,hz1,hz2⟩:=aY Dv;have HI:=I eO;have HZ:=I hz0;have eI:=I hz1;have eJ:=I hz2;clear h eO hz0 hz1 hz2;go_enter func162,ntmps162;go_wp2_with fail;go_loopw [4,3] (λs s3 wr=>∃i:Nat,s=.int .i64 i/\i<=Q.length/\Hid (Up w Q i s3 wr)) (λs _ _=>Q.length-(intOf s).toNat)
 case atStart=>exact⟨0,rfl,Γ _,H0⟩
 case round =>
  clear H0;obtain⟨i,rfl,hi,HS⟩:=hrel;by_cases ja:i<Q.length
  ·obtain⟨b,t,s,eb,et,es,hS⟩:=(Z HR) i ja;obtain⟨g,d',eg,hg,hrow⟩:=(Z HW) (by omega);rw[e2]at eg;simp only[τ,ψ,aZ]at eg;obtain⟨rfl,rfl⟩:=eg;have J:=(Z HS).b;have hown:=(Z HS).o;have rb:=(J.cell (p:=⟨g,i,none⟩) hg).trans (hrow i b eb);have hbl:=hS.tg.lt;have c0:=(J.cell (p:=⟨b,0,none⟩) hbl).trans hS.c0;have c1:=(J.cell (p:=⟨b,1,none⟩) hbl).trans hS.c1;have c2:=(J.cell (p:=⟨b,2,none⟩) hbl).trans hS.c2;have hpl:sY Q (i+1)=sY Q i++[.int .i64 s.V,.int .i64 s.at_,.int .i64 0]:=by rw[sY,getD_at es];rfl
   have eO:(0:Int)<=i:=by omega
   have Am:(i:Int)<Q.length:=by omega
   have hbs:=J.size;have SG:=I hpl;have HB:=I J;clear hrow hS eb et es hpl J;unfold ptr at*;go_wp2_with (at_builtin;refine Ω _ rfl (.tmp 11) (.tmp 19) 280 rfl w.heap.size 293 i0 (.agg #[.int .i64 0,.int .i64 0,.int .i64 0]) 3 24 underlying280 (Z HI) (Z HZ) (Z eI) (Z eJ) rfl (by decide) _ _ _ rfl (hown.alloc _) ⟨wr.heap.size,0,none⟩ 1 1 [.int .i64 s.V,.int .i64 s.at_,.int .i64 0] rfl rfl (Qb _ _ _ _ _) (Xe _ _ _) (by unfold maxLen;omega) (by omega) (by simp;omega) ?_);intro v4 w4 o4 q4 _;have B4:Below w.heap.size w w4:=((Z HB).alloc hbs _).grown q4 (by simp;omega) (bL hown);have KQ:Hid (Up w Q (i+1) v4 w4):=⟨B4,by rw[Z SG];exact o4⟩;clear o4 q4 B4 HB SG hown rb c0 c1 c2;go_wp2;go_roundw;case rel=>exact⟨i+1,by go_num,by omega,KQ⟩
   case measure=>simp[intOf];omega
  ·obtain rfl:i=Q.length:=by omega
   go_wp2;go_ret;exact⟨_,rfl,(Z HS).o,(Z HS).b⟩
theorem mX (b1 b2:Nat)(v1 v2:Value)(n:Nat)(xs:List Value)(w:World)(G:w.ownsRow b1 293 3 v1 n xs)(O:w.ownsRow b2 293 3 v2 n xs)(hx:∀i,i<n->∃a b c:Int,xs[i*3]?=some (.int .i64 a)/\xs[i*3+1]?=some (.int .i64 b)/\xs[i*3+2]?=some (.int .i64 c))(hn:n<=10000):
  Calls prog 160 #[v1,v2] w λev w'=>ev=.returned (.bool true)/\Below w.heap.size w w':=by
 obtain⟨p1,d1,rfl⟩:=cM G;obtain⟨p2,d2,rfl⟩:=cM O;have MR:Hid (∀i,i<n->∃g a b c,p1=some ⟨g,0,none⟩/\g<w.heap.size/\xs[i*3]?=some (.int .i64 a)/\xs[i*3+1]?=some (.int .i64 b)/\xs[i*3+2]?=some (.int .i64 c)/\w.cell? ⟨g,i*3,none⟩=some (.int .i64 a)/\w.cell? ⟨g,i*3+1,none⟩=some (.int .i64 b)/\w.cell? ⟨g,i*3+2,none⟩=some (.int .i64 c)):=λi hi=>by
  obtain⟨a,b,c,e0,e1,e2⟩:=hx i hi;obtain⟨g,cap,hv,_,hl⟩:=G.form (by omega);simp only[ψ,aZ]at hv;obtain⟨rfl,rfl⟩:=hv;exact⟨g,a,b,c,rfl,hl,e0,e1,e2,(G.cellAt _ (by omega)).trans e0,(G.cellAt _ (by omega)).trans e1,(G.cellAt _ (by omega)).trans e2⟩
 have p_:Hid (∀i,i<n->∃g,p2=some ⟨g,0,none⟩/\g<w.heap.size/\w.cell? ⟨g,i*3,none⟩=xs[i*3]?/\w.cell? ⟨g,i*3+1,none⟩=xs[i*3+1]?/\w.cell? ⟨g,i*3+2,none⟩=xs[i*3+2]?):=λi hi=>by
  obtain⟨g,cap,hv,_,hl⟩:=O.form (by omega);simp only[ψ,aZ]at hv;obtain⟨rfl,rfl⟩:=hv;exact⟨g,rfl,hl,O.cellAt _ (by omega),O.cellAt _ (by omega),O.cellAt _ (by omega)⟩
 clear G O hx;go_enter func160,ntmps160;go_wp2_with fail;go_loopw [5] (λs wr=>∃i:Nat,s=.int .i64 i/\i<=n/\Hid (Below w.heap.size w wr)) (λs _=>n-(intOf s).toNat)
 case atStart=>exact⟨0,rfl,Γ _,γ _ _⟩
 case round =>
  obtain⟨i,rfl,hi,hB⟩:=hrel;have eO:(0:Int)<=i:=by omega
  by_cases ja:i<n
  ·have Am:(i:Int)<n:=by omega
   obtain⟨g1,a,b,c,rfl,KG,x0,x1,x2,c0,c1,c2⟩:=(Z MR) i ja;obtain⟨g2,rfl,hl2,k0,k1,k2⟩:=(Z p_) i ja;have c0':=((Z hB).cell (p:=⟨g1,i*3,none⟩) KG).trans c0;have c1':=((Z hB).cell (p:=⟨g1,i*3+1,none⟩) KG).trans c1;have c2':=((Z hB).cell (p:=⟨g1,i*3+2,none⟩) KG).trans c2;have k0':=((Z hB).cell (p:=⟨g2,i*3,none⟩) hl2).trans (k0.trans x0);have k1':=((Z hB).cell (p:=⟨g2,i*3+1,none⟩) hl2).trans (k1.trans x1);have k2':=((Z hB).cell (p:=⟨g2,i*3+2,none⟩) hl2).trans (k2.trans x2);clear c0 c1 c2 k0 k1 k2 x0 x1 x2;go_wp2_with fail;go_quiet (fail);go_wp2_with fail;go_roundw;case rel=>exact⟨i+1,by go_num,by omega,iB (Z hB) _⟩
   case measure=>simp[intOf];omega
  ·obtain rfl:i=n:=by omega
   go_wp2;go_ret;exact⟨rfl,Z hB⟩
theorem yK (b1 b2:Nat)(v1 v2:Value)(n:Nat)(xs:List Value)(w:World)(G:w.ownsRow b1 34 2 v1 n xs)(O:w.ownsRow b2 34 2 v2 n xs)(hx:∀i,i<n->∃a b:Int,xs[i*2]?=some (.int .i64 a)/\xs[i*2+1]?=some (.int .i64 b))(hn:n<=1000000):
  Calls prog 163 #[v1,v2] w λev w'=>ev=.returned (.bool true)/\Below w.heap.size w w':=by
 obtain⟨p1,d1,rfl⟩:=cM G;obtain⟨p2,d2,rfl⟩:=cM O;have MR:Hid (∀i,i<n->∃g a b,p1=some ⟨g,0,none⟩/\g<w.heap.size/\xs[i*2]?=some (.int .i64 a)/\xs[i*2+1]?=some (.int .i64 b)/\w.cell? ⟨g,i*2,none⟩=some (.int .i64 a)/\w.cell? ⟨g,i*2+1,none⟩=some (.int .i64 b)):=λi hi=>by
  obtain⟨a,b,e0,e1⟩:=hx i hi;obtain⟨g,cap,hv,_,hl⟩:=G.form (by omega);simp only[ψ,aZ]at hv;obtain⟨rfl,rfl⟩:=hv;exact⟨g,a,b,rfl,hl,e0,e1,(G.cellAt _ (by omega)).trans e0,(G.cellAt _ (by omega)).trans e1⟩
 have p_:Hid (∀i,i<n->∃g,p2=some ⟨g,0,none⟩/\g<w.heap.size/\w.cell? ⟨g,i*2,none⟩=xs[i*2]?/\w.cell? ⟨g,i*2+1,none⟩=xs[i*2+1]?):=λi hi=>by
  obtain⟨g,cap,hv,_,hl⟩:=O.form (by omega);simp only[ψ,aZ]at hv;obtain⟨rfl,rfl⟩:=hv;exact⟨g,rfl,hl,O.cellAt _ (by omega),O.cellAt _ (by omega)⟩
 clear G O hx;go_enter func163,ntmps163;go_wp2_with fail;go_loopw [5] (λs wr=>∃i:Nat,s=.int .i64 i/\i<=n/\Hid (Below w.heap.size w wr)) (λs _=>n-(intOf s).toNat)
 case atStart=>exact⟨0,rfl,Γ _,γ _ _⟩
 case round =>
  obtain⟨i,rfl,hi,hB⟩:=hrel;have eO:(0:Int)<=i:=by omega
  by_cases ja:i<n
  ·have Am:(i:Int)<n:=by omega
   obtain⟨g1,a,b,rfl,KG,x0,x1,c0,c1⟩:=(Z MR) i ja;obtain⟨g2,rfl,hl2,k0,k1⟩:=(Z p_) i ja;have c0':=((Z hB).cell (p:=⟨g1,i*2,none⟩) KG).trans c0;have c1':=((Z hB).cell (p:=⟨g1,i*2+1,none⟩) KG).trans c1;have k0':=((Z hB).cell (p:=⟨g2,i*2,none⟩) hl2).trans (k0.trans x0);have k1':=((Z hB).cell (p:=⟨g2,i*2+1,none⟩) hl2).trans (k1.trans x1);clear c0 c1 k0 k1 x0 x1;go_wp2_with fail;go_quiet (fail);go_wp2_with fail;go_roundw;case rel=>exact⟨i+1,by go_num,by omega,iB (Z hB) _⟩
   case measure=>simp[intOf];omega
  ·obtain rfl:i=n:=by omega
   go_wp2;go_ret;exact⟨rfl,Z hB⟩
theorem DG (Q:List Sl):∀n,(sY Q n).length=n*3
 |0=>rfl
 |n+1=>by rw[sY,φ,DG Q n];simp[plc];omega
theorem JP (Q:List Sl):∀n i,i<n->∃a b c:Int,(sY Q n)[i*3]?=some (.int .i64 a)/\(sY Q n)[i*3+1]?=some (.int .i64 b)/\(sY Q n)[i*3+2]?=some (.int .i64 c)
 |0,i,h=>by omega
 |n+1,i,h=>by
  have hl:=DG Q n;rw[sY];rcases bC i n with h'|h'
  ·obtain⟨a,b,c,e0,e1,e2⟩:=JP Q n i h';exact⟨a,b,c,by rw[ar (by omega)];exact e0,by rw[ar (by omega)];exact e1,by rw[ar (by omega)];exact e2⟩
  ·obtain rfl:i=n:=by omega
   refine⟨(Q.getD i default).V,(Q.getD i default).at_,0,?_,?_,?_⟩
   ·rw[aq (by omega),hl,Nat.sub_self];rfl
   ·rw[aq (by omega),hl,show i*3+1-i*3=1 by omega];rfl
   ·rw[aq (by omega),hl,show i*3+2-i*3=2 by omega];rfl
theorem NQ (l:List Bl)(i:Nat)(h:i<l.length):∃a b:Int,(flat l)[i*2]?=some (.int .i64 a)/\(flat l)[i*2+1]?=some (.int .i64 b):=by
 obtain⟨e0,e1⟩:=gO l i h;rw[dZ]at e0 e1;exact⟨_,_,e0,e1⟩
theorem JQ (N0:Nat)(c z:Nat)(ly:Ly)(sz:Int)(m:Nat)(bs:List Nat)(Q:List Sl)(w:World)(h:DC N0 w c z ly sz m bs Q)(N1 rc rz:Nat)(rb rt:List Nat)(hr:RC N1 w rc rz sz m rb rt Q)(hn:Q.length<=10000):
  Calls prog 87 #[ptr c,ptr rc] w λev w'=>ev=.returned (.int .i64 1)/\Below w.heap.size w w':=by
 have f_:=h.mm;have nO:=h.Pb;have HD:=I h;have HR:=I hr;have IK:=I (rU N1 rc rz sz m rb rt Q w hr h.ok f_ hn);have uX:=pd m Q Q.length;have WR:Q.length*m<=10000*64:=gu hn nO.2;obtain⟨p,d,e2,_⟩:=hr.c2;rw[hr.len]at e2;have zv:=hr.tg.lt;have rc1:=hr.c1;clear h hr;unfold ptr at*;go_enter func87,ntmps87;go_wp2_with fail;refine(Z IK).mono ?_;rintro ev w1⟨v1,rfl,o1,b1⟩;have Pj:=I (og N0 c z ly sz m bs Q w1 ((Z HD).b b1) hn);clear IK;unfold ptr at*;go_wp2_with fail;refine(Z Pj).mono ?_;rintro ev w2⟨rfl,b2⟩;have B2:=bW b1 b2;have O1:=I (aN o1 b2);have GX:=I ((Z HD).b B2);have jS:=I ((Z HR).b B2);have ZE:=(B2.cell (p:=⟨rc,2,none⟩) zv).trans e2;have aa2:=(B2.cell (p:=⟨rc,1,none⟩) zv).trans rc1;have SU:rc<w2.heap.size:=by have:=B2.size;omega
 have kg:=I B2;clear Pj HD HR o1 b1 b2 B2 e2 rc1 zv;obtain⟨pt,dt,rfl⟩:=cM (Z O1);have YZ:=I (λW' (J:Below w2.heap.size w2 W')=>(JK N0 c z ly sz m bs Q W' ((Z GX).b J) hn).mono (λev w' hh=>show(∃pv dv,ev=.returned (.slice pv Q.length dv)/\w'.ownsRow W'.heap.size 293 3 (.slice pv Q.length dv) Q.length (sY Q Q.length)/\Below W'.heap.size W' w')/\Below w2.heap.size w2 w' from by
  obtain⟨v,G,O,h3⟩:=hh;obtain⟨pv,dv,rfl⟩:=cM O;exact⟨⟨pv,dv,G,O,h3⟩,bW J h3⟩))
 have SG:=I (λW' (J:Below w2.heap.size w2 W')=>(FD N1 rc rz sz m rb rt Q W' ((Z jS).b J) p d ((J.cell (p:=⟨rc,2,none⟩) SU).trans ZE) hn).mono (λev w' hh=>show(∃pv dv,ev=.returned (.slice pv Q.length dv)/\w'.ownsRow W'.heap.size 293 3 (.slice pv Q.length dv) Q.length (sY Q Q.length)/\Below W'.heap.size W' w')/\Below w2.heap.size w2 w' from by
  obtain⟨v,G,O,h3⟩:=hh;obtain⟨pv,dv,rfl⟩:=cM O;exact⟨⟨pv,dv,G,O,h3⟩,bW J h3⟩))
 have gL:=I (λW' (J:Below w2.heap.size w2 W')=>(I4 N0 c z ly sz m bs Q W' ((Z GX).b J) hn).mono (λev w' hh=>show(∃pv dv,ev=.returned (.slice pv (mQ m Q Q.length) dv)/\w'.ownsRow (W'.heap.size+1) 34 2 (.slice pv (mQ m Q Q.length) dv) (mQ m Q Q.length) (flat (oI m sz Q Q.length))/\Below W'.heap.size W' w')/\Below w2.heap.size w2 w' from by
  obtain⟨v,G,O,h3⟩:=hh;obtain⟨pv,dv,rfl⟩:=cM O;exact⟨⟨pv,dv,G,O,h3⟩,bW J h3⟩))
 have sZ:=I (λW' (J:Below w2.heap.size w2 W')=>IZ c sz W' ((Z GX).b J).c1);have HXP:Hid (∀i,i<Q.length->∃a b c:Int,(sY Q Q.length)[i*3]?=some (.int .i64 a)/\(sY Q Q.length)[i*3+1]?=some (.int .i64 b)/\(sY Q Q.length)[i*3+2]?=some (.int .i64 c)):=λi hi=>JP Q _ i hi;have VP:Hid (∀i,i<mQ m Q Q.length->∃a b:Int,(flat (oI m sz Q Q.length))[i*2]?=some (.int .i64 a)/\(flat (oI m sz Q Q.length))[i*2+1]?=some (.int .i64 b)):=λi hi=>NQ _ i (by rw[vD];exact hi);have Bq:Hid (∀W',Below w2.heap.size w2 W'->W'.cell? ⟨rc,2,none⟩=some (.slice p Q.length d)/\W'.cell? ⟨rc,1,none⟩=some (.int .i64 sz)):=λW' J=>⟨(J.cell (p:=⟨rc,2,none⟩) SU).trans ZE,(J.cell (p:=⟨rc,1,none⟩) SU).trans aa2⟩;have SQ:Int.tdiv 64 sz=(m:Int):=(Int.tdiv_eq_ediv_of_nonneg (by omega)).trans f_.2.2.symm;have Xn:¬sz=0:=by omega
 have ht6:mQ m Q Q.length<=1000000:=by omega
 have EA:(Q.length:Int)*(m:Int)=((Q.length*m:Nat):Int):=by push_cast;rfl
 have hwr:IntKind.i64.wrap ((Q.length:Int)*(m:Int))=(Q.length:Int)*(m:Int):=by
  rw[EA];exact aB _ (by omega)
 have QX:IntKind.i64.wrap (m:Int)=(m:Int):=aB _ (by omega);have hne:((((Q.length*m:Nat):Int))!=(Q.length:Int)*(m:Int))=false:=by rw[EA];simp
 clear GX jS f_ uX EA;go_wp2_with fail;go_region_held3 (λW'=>W'.cell? ⟨rc,2,none⟩=some (.slice p Q.length d)/\W'.cell? ⟨rc,1,none⟩=some (.int .i64 sz)) (first|(go_keep;done)|exact(Z Bq) _ (dw _)|exact(Z Bq) _ (by assumption)) ((first|(go_at_call 161;refine((Z YZ) _ (by first|exact dw _|assumption)).mono ?_;rintro ev w5⟨⟨p5,d5,rfl,o5,b5⟩,B5⟩)|(go_at_call 162;refine((Z SG) _ (by first|exact dw _|assumption)).mono ?_;rintro ev w6⟨⟨p6,d6,rfl,o6,b6⟩,B6⟩)|(go_at_call 160;refine(mX _ _ _ _ _ _ _ (aN o5 b6) o6 (Z HXP) hn).mono ?_;rintro ev w7⟨rfl,b7⟩;have B7:=bW B6 b7)|(go_at_call 160;refine(mX _ _ _ _ _ _ _ o5 (aN o6 b5) (Z HXP) hn).mono ?_;rintro ev w7⟨rfl,b7⟩;have B7:=bW B5 b7)|(go_at_call 164;refine((Z gL) _ B7).mono ?_;rintro ev w8⟨⟨p8,d8,rfl,o8,b8⟩,B8⟩)|(go_at_call 163;refine(yK _ _ _ _ _ _ _ o8 (aN (Z O1) B8) (Z VP) ht6).mono ?_;rintro ev w9⟨rfl,b9⟩;have B9:=bW B8 b9)|(go_at_call 165;refine((Z sZ) _ B9).mono ?_;rintro ev jD⟨rfl,rfl⟩;have B10:=B9)));all_goals
  go_wp2;go_ret;exact⟨rfl,bW (Z kg) (by assumption)⟩
end Sb
end Go.Proofs.YtcbmfakjfoggaaaGreatDoor
