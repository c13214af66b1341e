/- H23 -/
import Derived.Test.YtcbmfakjfoggaaaGreatDoorA0
import Derived.Test.YtcbmfakjfoggaaaGreatDoorH22
import Derived.Test.YtcbmfakjfoggaaaGreatDoorH21
set_option maxHeartbeats 0
set_option maxRecDepth 100000
namespace Go.Proofs.YtcbmfakjfoggaaaGreatDoor
open _root_.Go.Proofs.Tryz Go.RowKit Go.Maps
namespace Sb
open Fr Bd Zn Dz
inductive NM (N0:Nat)(c z:Nat)(sz:Int)(m:Nat)(bs ts:List Nat)(Q:List Sl)(mn lw hi:Int)(k:Nat)(nb:Nat->Nat)(V:Nat->Nd)(fr:Nat->List Nat)(x:Int)(u:Bool)(w:World):Ending->World->Prop
 |no (r:Int) (w':World) (hp:RR N0 w' c z sz m bs ts Q mn lw hi k nb V fr) (K:bD R4 N0 w w')
  (hr:(r=2/\¬(0<=x/\x<k))\/∃x':Nat,x=x'/\x'<k/\(dK m x' Q Q.length).1=none/\(fr x').find? (λi=>fA 0 mn u (V i)==2)=none/\r=if(fr x').any (λi=>fA 0 mn u (V i)==1)then 7 else 5):
  NM N0 c z sz m bs ts Q mn lw hi k nb V fr x u w (.returned (.tuple #[bz 0 0,.int .i64 r])) w'
 |old (x' j:Nat) (s:Sl) (w':World) (hx:x=x') (mN:x'<k) (J:(dK m x' Q Q.length).1=some j) (hs:Q[j]?=some s)
  (hp:RR N0 w' c z sz m bs ts (Q.set j {s with bm:=s.bm||| 2^ff s.bm}) mn lw hi k nb V fr) (K:bD R4 N0 w w'):
  NM N0 c z sz m bs ts Q mn lw hi k nb V fr x u w (.returned (.tuple #[bz s.V (s.at_*64+ff s.bm*sz),.int .i64 0])) w'
 |new (x' i q:Nat) (a:Int) (pD sr:List Nat) (Dw:Nat->Nat) (w':World) (hx:x=x') (mN:x'<k) (J:(dK m x' Q Q.length).1=none) (hf:(fr x').find? (λi=>fA 0 mn u (V i)==2)=some i) (hik:i<k) (ha:a=mO 0 (V i)) (hq:Pos Q i a q)
  (hp:RR N0 w' c z sz m pD sr (Sb.ins Q q ⟨i,a,1⟩) mn lw hi k Dw (up V i (kC 0 (V i))) fr) (K:bD R4 N0 w w'):
  NM N0 c z sz m bs ts Q mn lw hi k nb V fr x u w (.returned (.tuple #[bz i (a*64),.int .i64 0])) w'
theorem SN:(prog.info? 4).map (λi=>(i.zero,i.size,i.bytes))=some (some (.bool false),1,1):=by kernel_rfl
theorem Bp (m:Nat)(hm:m<=64):∃ZZ:Array Value,(∀j,j<m->ZZ[j]?=some (.bool false))/\∀W:World,(Instr.makeSlice 303 (.int .i64 (m:Int)) (.int .i64 (m:Int))).run prog W=.ok (.slice (some ⟨W.heap.size,0,none⟩) m m) (W.alloc (.cells ZZ 4)):=by
 obtain⟨i0,h0,hz0,hz1,hz2⟩:=aY SN;refine⟨madeCells (Value.bool false).cells m,λj E=>?_,λW=>?_⟩
 ·have G:=toList_madeCells_one (.bool false) m;have O:(madeCells #[Value.bool false] m).toList[j]?=some (.bool false):=by rw[G];simp[E]
  rw[show(Value.bool false).cells=#[Value.bool false]from rfl];simpa using O
 ·have:=run_makeSlice (P:=prog) W 303 4 i0 (.bool false) underlying303 h0 hz0 .i64 .i64 m m (by omega) (by omega) (by rw[hz1];simp;omega) (by rw[hz2];omega) (by omega);rw[hz1]at this;simpa using this
theorem RC.SP {N0:Nat}{w:World}{c z:Nat}{sz:Int}{m:Nat}{bs ts:List Nat}{Q:List Sl}(h:RC N0 w c z sz m bs ts Q):(w.cell? ⟨c,2,none⟩=some (.slice none 0 0)/\Q.length=0)\/∃g d,w.cell? ⟨c,2,none⟩=some (.slice (some ⟨g,0,none⟩) Q.length d)/\g<w.heap.size/\Q.length<=d/\d<=maxLen/\∀i b,bs[i]?=some b->w.cell? ⟨g,i,none⟩=some (ptr b):=by
 obtain⟨p,d2,e2,o2⟩:=h.c2;rw[h.len]at e2 o2;rcases o2.2 with⟨e,e0⟩|⟨g,cap,cur,e,_,hh,G,O,_⟩
 ·rw[e]at e2;exact ε ⟨e2,e0⟩
 ·rw[e]at e2 o2;exact δ ⟨g,cap,e2,(o2.lt g rfl).2,G,O,λi b J=>(o2.cellAt i (by have:=(ν.mp J).1;rw[h.len]at this;omega)).trans (nZ J)⟩
theorem Fw {l:List Nat}(h:l.Nodup){k x:Nat}(hx:x∉l):(Sb.ins l k x).Nodup:=by
 unfold Sb.ins;rw[aF,a_];have hn:=h;rw[<- bS k l,aF]at hn;refine⟨hn.1,⟨λhm=>hx (dH hm),hn.2.1⟩,λy hy y' hy' e=>?_⟩;subst e;rcases ae.mp hy' with e'|hm
 ·rw[e']at hy;exact hx (gw hy)
 ·exact hn.2.2 y hy y hm rfl
theorem rX (w:World)(u:Value)(t:TypeId):∀j v,([u]:List Value)[j]?=some v->(w.alloc (.cells #[u] t)).cell? ((⟨w.heap.size,0,none⟩:Addr).add j)=some v:=λj v E=>by
 match j,E with
 |0,E =>
  simp only[υ,τ]at E;subst E;rw[eZ];exact θ w #[u] t 0
theorem vW {Q:List Sl}(hs:Sorted Q){x:Nat}{a:Int}{q:Nat}(hq:q<=Q.length)(G:∀t s,t<q->Q[t]?=some s->lt s x a)(O:∀s,Q[q]?=some s->¬lt s x a):Pos Q x a q:=by
 refine⟨hq,G,λt s ht es hl=>?_⟩;rcases Nat.eq_or_lt_of_le ht with e|e
 ·subst e;exact O s es hl
 ·have VS:q<Q.length:=by have:=(ν.mp es).1;omega
  have e0:Q[q]?=some (Q[q]):=ξ VS;have h3:=sorted_at hs e0 es e;refine O _ e0 ?_;unfold lt at*;omega
theorem qV (N0:Nat)(c z:Nat)(sz:Int)(m:Nat)(bs ts:List Nat)(Q:List Sl)(mn lw hi:Int)(k:Nat)(nb:Nat->Nat)(V:Nat->Nd)(fr:Nat->List Nat)(x:Int)(u:Bool)(w:World)(h:RR N0 w c z sz m bs ts Q mn lw hi k nb V fr)(eH:∀s∈Q,KP m s)(A5:Sorted Q)(f_:1<=sz/\sz<=64/\(m:Int)=64/sz)(hn:Q.length<=10000)(hN:N0<=w.heap.size)(hk4:k<=20)(oH:∀x,x<k->(fr x).length=k/\∀i∈fr x,i<k):
  Calls prog 102 #[ptr c,.int .i64 x,.bool u] w λev w'=>NM N0 c z sz m bs ts Q mn lw hi k nb V fr x u w ev w':=by
 obtain⟨i0,eO,hz0,hz1,hz2⟩:=aY NI;have HI:=I eO;have HZ:=I hz0;have eI:=I hz1;have eJ:=I hz2;clear eO hz0 hz1 hz2;have F1:=χ (γ w.heap.size w) (cB 0 0);have R1:=cQ w;have P1:=h.b F1;have eR:=P1.K.tg.lt;obtain⟨p,d,e2,_⟩:=P1.K.c2;rw[P1.K.len]at e2;have c0:=P1.K.c0;have YM:=I (oY z mn lw hi k nb V fr x _ P1.hz);have Gs:=I P1;have cZ:=I F1;have fk:=I R1;have II:=I eH;have NN:=I A5;have lY:=I f_;have Dg:=I oH;have AX:m<=64:=by
  have:(64:Int)/sz<=64:=Int.ediv_le_self _ (by omega);omega
 have RN:Hid (∀r w',RR N0 w' c z sz m bs ts Q mn lw hi k nb V fr->bD R4 N0 w w'->((r=2/\¬(0<=x/\x<k))\/∃x':Nat,x=x'/\x'<k/\(dK m x' Q Q.length).1=none/\(fr x').find? (λi=>fA 0 mn u (V i)==2)=none/\r=if(fr x').any (λi=>fA 0 mn u (V i)==1)then 7 else 5)->NM N0 c z sz m bs ts Q mn lw hi k nb V fr x u w (.returned (.tuple #[bz 0 0,.int .i64 r])) w'):=λr w' G O h3=>.no r w' G O h3;have RO:Hid (∀x' j s w',x=(x':Nat)->x'<k->(dK m x' Q Q.length).1=some j->Q[j]?=some s->RR N0 w' c z sz m bs ts (Q.set j {s with bm:=s.bm||| 2^ff s.bm}) mn lw hi k nb V fr->bD R4 N0 w w'->NM N0 c z sz m bs ts Q mn lw hi k nb V fr x u w (.returned (.tuple #[bz s.V (s.at_*64+ff s.bm*sz),.int .i64 0])) w'):=λx' j s w' G O h3 h4 h5 h6=>.old x' j s w' G O h3 h4 h5 h6;have RW:Hid (∀(x' i q:Nat) (a:Int) (pD sr:List Nat) (Dw:Nat->Nat) w',x=(x':Nat)->x'<k->(dK m x' Q Q.length).1=none->(fr x').find? (λi=>fA 0 mn u (V i)==2)=some i->i<k->a=mO 0 (V i)->Pos Q i a q->RR N0 w' c z sz m pD sr (Sb.ins Q q ⟨i,a,1⟩) mn lw hi k Dw (up V i (kC 0 (V i))) fr->bD R4 N0 w w'->NM N0 c z sz m bs ts Q mn lw hi k nb V fr x u w (.returned (.tuple #[bz i (a*64),.int .i64 0])) w'):=λx' i q a pD sr Dw w' G O h3 h4 h5 h6 h7 h8 h9=>.new x' i q a pD sr Dw w' G O h3 h4 h5 h6 h7 h8 h9;clear h F1 R1 P1 eH f_ oH A5;generalize NM N0 c z sz m bs ts Q mn lw hi k nb V fr x u w=TR at*;unfold ptr bz at*;go_enter func102,ntmps102;go_upto_region 1 with(fail);generalize hW:w.alloc (cB 0 0)=W at*;go_wp2_with fail;refine(Z YM).mono ?_;rintro ev w1⟨rfl,b1⟩;have eA:=I (bW (Z cZ) b1);have zz:=I ((Z Gs).b b1);have jS:=I ((Z fk).b b1);have RH:c<w1.heap.size:=by have:=b1.size;omega
 have e21:=(b1.cell (p:=⟨c,2,none⟩) eR).trans e2;have c01:=(b1.cell (p:=⟨c,0,none⟩) eR).trans c0;clear YM cZ Gs fk b1 e2 c0 eR hW;by_cases hx:0<=x/\x<k
 ·rw[show decide (0<=x/\x<k)=true by simpa using hx];obtain⟨x',rfl⟩:=bw hx.1;have sN:x'<k:=by omega
  clear hx;go_wp2_with fail;go_loopw [9,10,11] (λs9 Iq s wr=>∃i:Nat,s=.int .i64 i/\i<=Q.length/\s9=jy bs (dK m x' Q i).1/\Iq=.int .i64 (dK m x' Q i).2/\Hid (Below w1.heap.size w1 wr)) (λ_ _ s _=>Q.length-(intOf s).toNat)
  case atStart=>exact⟨0,rfl,Γ _,rfl,rfl,γ _ _⟩
  case round =>
   obtain⟨i,rfl,abR,rfl,rfl,hB⟩:=hrel;have e2r:=((Z hB).cell (p:=⟨c,2,none⟩) RH).trans e21;have eO:(0:Int)<=i:=by omega
   by_cases ja:i<Q.length
   ·have Am:(i:Int)<Q.length:=by omega
    have HPr:=I ((Z zz).b (Z hB));obtain⟨b,t,s,eb,et,es,hS⟩:=(Z HPr).K.slab ja;obtain⟨g,d',xx,hg,hrow⟩:=(Z HPr).K.row (by omega);rw[e2r]at xx;simp only[τ,ψ,aZ]at xx;obtain⟨rfl,rfl⟩:=xx;have rb:=hrow i b eb;have Ur:=I (NB b t m s wr hS AX);have HSr:=I hS;have jP:dK m x' Q (i+1)=if s.V=x'/\pop s.bm m<m/\(dK m x' Q i).2<(pop s.bm m:Int)then(some i,(pop s.bm m:Int))else dK m x' Q i:=by
     rw[dK,getD_at es]
    have zu:=Ag m x' Q i;have Gr:jy bs (some i)=.pointer (some ⟨b,0,none⟩):=by simp only[jy,getD_at eb];rfl
    have hpl:=fu s.bm m;have HX:=I jP;clear jP hrow hS eb es et HPr;have sb0:∀w2,Below wr.heap.size wr w2->w2.cell? ⟨b,0,none⟩=some (.int .i64 s.V)/\w2.cell? ⟨b,3,none⟩=some (.slice (some ⟨t,0,none⟩) m m)/\w2.cell? ⟨g,i,none⟩=some (ptr b)/\w2.cell? ⟨c,2,none⟩=some (.slice (some ⟨g,0,none⟩) Q.length d):=λw2 J=>⟨((Z HSr).b J).c0,((Z HSr).b J).c3,(J.cell (p:=⟨g,i,none⟩) hg).trans rb,(J.cell (p:=⟨c,2,none⟩) (ι RH (Z hB).size)).trans e2r⟩;have HSB:=I sb0;clear sb0;generalize s.bm=bm at*;generalize pop bm m=n1 at*;generalize hBB:dK m x' Q i=B1 at*;obtain⟨o1,v1⟩:=B1;simp only at zu;generalize Iz:jy bs o1=V1 at*;unfold ptr at*;have HBI:=I Gr;have sw:=I Iz;have HB:=I hBB;clear hBB Iz Gr;go_wp2_with fail;refine(Z Ur).mono ?_;rintro ev w2⟨rfl,b2⟩;obtain⟨sc0,sc3,scg,sc2⟩:=(Z HSB) w2 b2;have mS:=I (bW (Z hB) b2);clear Ur b2 HSB HSr rb e2r hB;by_cases a1:s.V=x'
    ·have d1:((s.V:Int)==(x':Int))=true:=by simp;omega
     by_cases a2:n1<m
     ·have d2:decide ((n1:Int)<(m:Int))=true:=by simp;omega
      by_cases a3:v1<(n1:Int)
      ·have d3:decide ((n1:Int)>v1)=true:=by simp;omega
       have HE:Hid (dK m x' Q (i+1)=(some i,(n1:Int))):=by rw[Z HX,af ⟨a1,a2,a3⟩];exact rfl
       clear a1;go_wp2_with fail;go_roundw;case rel=>exact⟨i+1,by go_num,by omega,by rw[Z HE];exact(Z HBI).symm,by rw[Z HE],mS⟩
       case measure=>simp[intOf];omega
      ·have d3:decide ((n1:Int)>v1)=false:=by simp;omega
       have HE:Hid (dK m x' Q (i+1)=(o1,v1)):=by rw[Z HX,ai (λh=>a3 h.2.2)];exact rfl
       clear a1;go_wp2_with fail;go_roundw;case rel=>exact⟨i+1,by go_num,by omega,by rw[Z HE];exact(Z sw).symm,by rw[Z HE],mS⟩
       case measure=>simp[intOf];omega
     ·have d2:decide ((n1:Int)<(m:Int))=false:=by simp;omega
      have HE:Hid (dK m x' Q (i+1)=(o1,v1)):=by rw[Z HX,ai (λh=>a2 h.2.1)];exact rfl
      clear a1;go_wp2_with fail;go_roundw;case rel=>exact⟨i+1,by go_num,by omega,by rw[Z HE];exact(Z sw).symm,by rw[Z HE],mS⟩
      case measure=>simp[intOf];omega
    ·have d1:((s.V:Int)==(x':Int))=false:=by simp;omega
     have HE:Hid (dK m x' Q (i+1)=(o1,v1)):=by rw[Z HX,ai (λh=>a1 h.1)];exact rfl
     clear a1;go_wp2_with fail;go_roundw;case rel=>exact⟨i+1,by go_num,by omega,by rw[Z HE];exact(Z sw).symm,by rw[Z HE],mS⟩
     case measure=>simp[intOf];omega
   ·obtain rfl:i=Q.length:=by omega
    have kn:¬((Q.length:Int)<(Q.length:Int)):=by omega
    have ud:=I ((Z zz).b (Z hB));have iq:=I ((Z jS).b (Z hB));have fY:=I (bW (Z eA) (Z hB));clear zz jS eA hB e21 c01;cases J:(dK m x' Q Q.length).1 with
    |some j =>
     obtain⟨E,hnd,jR⟩:=iP J;obtain⟨b,t,s,eb,et,es,hS⟩:=(Z ud).K.slab E;rw[getD_at es]at jR;have zu:jy bs (some j)=.pointer (some ⟨b,0,none⟩):=by simp only[jy,getD_at eb];rfl
     have A5:=(Z II) s (aH es);obtain⟨Gl,hf2,hf3⟩:=ky A5.2.2.1 AX jR;have IH:Hid (∀w',RR N0 w' c z sz m bs ts (Q.set j {s with bm:=s.bm||| 2^ff s.bm}) mn lw hi k nb V fr->bD R4 N0 w w'->TR (.returned (.tuple #[.agg #[.int .i64 s.V,.int .i64 (s.at_*64+ff s.bm*sz)],.int .i64 0])) w'):=λw' G O=>(Z RO) x' j s w' rfl sN J es G O;rw[zu];have Gt:=I eb;have HET:=I et;have Gu:=I es;have YX:=I A5;have HSl:=I hS;have cZ:=I Gl;have eA:=I hf2;have Fx:=I hf3;have yI:Hid (Below wr.heap.size wr wr):=γ _ _;clear zu J RO RW RN hnd jR A5 Gl hf2 hf3 eb et es hS;go_wp2_with fail;go_loopw [17] (λFy wr'=>∃q:Nat,Fy=.int .i64 q/\q<=ff s.bm/\Hid (Below wr.heap.size wr wr')) (λFy _=>ff s.bm-(intOf Fy).toNat)
     case atStart=>exact⟨0,rfl,Γ _,yI⟩
     case round =>
      clear yI;obtain⟨q,rfl,hq,hB⟩:=hrel;have SD:(0:Int)<=q:=by omega
      have hqm:q<m:=by have:=Z cZ;omega
      have hqi:(q:Int)<m:=by omega
      have nG:=(Z HSl).b (Z hB);have s3:=nG.c3;have fr:=nG.row q hqm;by_cases hqf:q<ff s.bm
      ·rw[(Z Fx) q hqf]at fr;clear nG;go_wp2_with fail;go_roundw;case rel=>exact⟨q+1,by go_num,by omega,hB⟩
       case measure=>simp[intOf];omega
      ·obtain rfl:q=ff s.bm:=by omega
       rw[Z eA]at fr;have JN:=nG.fz (ff s.bm);have Gv:=I ((Z ud).b (Z hB));have zx:=I ((Z iq).b (Z hB));have jI:=I (bW (Z fY) (Z hB));have xS:=jA (Z lY).1 (Z lY).2.2 (Z cZ);have gP:=I ((Z Gv).K.turn (Z Gt) (Z HET) (Z Gu) (k:=ff s.bm) (s.bm||| 2^ff s.bm) true (Z cZ) (by rw[Ae];simp) (λj E=>by rw[Ae];simp[Ne.symm E]));have hsz:=(Z lY).1;have LI:=(Z YX).1;have V3:=(Z YX).2.1;clear nG ud iq fY hB eA Fx;generalize hfi:ff s.bm=fi at*;have Xk:IntKind.i64.wrap (s.at_*64)=s.at_*64:=aB _ (by omega);have w2':IntKind.i64.wrap ((fi:Int)*sz)=(fi:Int)*sz:=aB _ (by omega);have w3':IntKind.i64.wrap (s.at_*64+(fi:Int)*sz)=s.at_*64+(fi:Int)*sz:=aB _ (by omega);go_upto_region 29 with(fail);have mF:=(Z Gv).rT ((Z gP).2.mono (by decide) (ζ _)) (Z gP).1;have JO:=I (((bD.below (Z jI)).trans ((Z gP).2.mono (by decide) (ζ _)):bD R4 N0 w _));have ki:=(Z zx).c (Z gP).2 (by decide);have S5:=mF.K.sl j b t _ (Z Gt) (Z HET) (by rw[aP (by exact E)]);have lZ:=I mF;have l8:=I ki;have k1:=mF.K.c1;have k0:=S5.c0;have ka:=S5.c1;have r0:=ki.c0;have r1:=ki.c1;have f0:=ki.fz 0;have f1:=ki.fz 1;clear mF ki S5 gP Gv zx jI s3 fr JN HSl;generalize wr.setCell ⟨t,fi,none⟩ (.bool true)=W5 at*;simp only at k0 ka;obtain⟨t0,t1⟩:=aW (W:=W5) r0 r1 (.int .i64 (s.V:Int)) (.int .i64 (s.at_*64+(fi:Int)*sz));go_region
       go_wp2;refine Θ (v:=.tuple #[.agg #[.int .i64 s.V,.int .i64 (s.at_*64+(fi:Int)*sz)],.int .i64 0]) (by simp[results,results102,go_sem,t0,t1];try rfl) rfl ?_;exact(Z IH) _ (((Z lZ).n_ ((bD.set (Z l8).tg (Γ _) 0 (.int .i64 (s.V:Int))).trans (bD.set ((Z l8).tg.set _ _) (Γ _) 1 (.int .i64 (s.at_*64+(fi:Int)*sz)))) (by decide)).b (dw _)) (((Z JO).fresh (ζ _) 0 _).fresh (ζ _) 1 _).drew
    |none =>
     have KR:=Fv z mn lw hi k nb V fr x' 0 u wr (Z ud).hz sN (by omega) (by omega) ((Z Dg) x' sN).1 ((Z Dg) x' sN).2 hk4;have c0r:=(Z ud).K.c0;unfold sM ptr at KR c0r;have KR:=I KR;have HB:=I J;clear RO J;rw[show jy bs none=.pointer none from rfl];go_wp2_with fail;refine(Z KR).mono ?_;rintro ev w4(⟨ER,rfl,b4⟩|⟨i,ER,hik,rfl,cn,gn,qH,rz4,⟨tgn,cpn,hat⟩,k4⟩)
     ·obtain⟨rr,ZL⟩:∃rr:Int,rr=if(fr x').any (λi=>fA 0 mn u (V i)==1)then 7 else 5:=⟨_,rfl⟩;have hr7:rr=7\/rr=5:=by rw[ZL];split<;>simp
      rw[<- ZL];have d1:decide (rr>0)=true:=by simp;omega
      have d2:decide ((0:Int)<rr)=true:=by simp;omega
      have G5:=χ b4 (.cells #[.int .i64 0,.int .i64 0,.int .i64 0] 293);have R5:=(Z iq).b G5;have P5:=(Z ud).b G5;have qF:=I (λw' (G:RR N0 w' c z sz m bs ts Q mn lw hi k nb V fr) (O:bD R4 N0 w w')=>(Z RN) rr w' G O (δ ⟨x',rfl,sN,Z HB,ER,ZL⟩));have mU:=I R5;have EU:=I P5;have iY:=I (bW (Z fY) G5);clear KR ER ZL ud iq fY RN RW b4 G5 P5 R5;go_upto_region 15 with(fail);generalize w4.alloc (.cells #[.int .i64 0,.int .i64 0,.int .i64 0] 293)=W5 at*;obtain⟨r0,r1,bQ,_⟩:=Z mU;have f0:=bQ 0;have f1:=bQ 1;clear bQ;obtain⟨t0,t1⟩:=aW r0 r1 (.int .i64 0) (.int .i64 0);go_wp2;refine Θ (v:=.tuple #[.agg #[.int .i64 0,.int .i64 0],.int .i64 rr]) (by simp[results,results102,go_sem,t0,t1];try rfl) rfl ?_;exact(Z qF) _ ((Z EU).n_ ((bD.set (Z mU).tg (Γ _) 0 (.int .i64 0)).trans (bD.set ((Z mU).tg.set _ _) (Γ _) 1 (.int .i64 0))) (by decide)) (((bD.below (Z iY)).fresh (ζ _) 0 _).fresh (ζ _) 1 _)
     ·have ht:fA 0 mn u (V i)=2:=by simpa using List.find?_some ER
      have AL:=(Z ud).hz.ok i hik;have Gw:=qG AL ht;have wL:bD [some 253] N0 wr w4:=bD.one k4 tgn ((Z ud).r gn cpn hat);have xO:=I (wL.mono (by decide:∀t∈[some 253],t∈R4) (ζ _));have Xl:RR N0 w4 c z sz m bs ts Q mn lw hi k (up nb i cn) (up V i (kC 0 (V i))) fr:=⟨rz4,(Z ud).K.same (wL.ep (by decide)),λj E=>by
       by_cases e:j=i
       ·subst e;rw[gJ];have:=(Z fY).size;omega
       ·rw[fj _ _ e];exact(Z ud).g j E,λg cp e=>(Z ud).r g cp ((η (w:=wr) (a:=⟨z,5,none⟩) (wL.same (Z ud).hz.tg (by decide))).symm.trans e)⟩
      have VR:=(Z iq).c wL (by decide);generalize hat':mO 0 (V i)=at' at*;have yJ:Hid (∀q pD sr w',Pos Q i at' q->RR N0 w' c z sz m pD sr (Sb.ins Q q ⟨i,at',1⟩) mn lw hi k (up nb i cn) (up V i (kC 0 (V i))) fr->bD R4 N0 w w'->TR (.returned (.tuple #[.agg #[.int .i64 i,.int .i64 (at'*64)],.int .i64 0])) w'):=λq pD sr w' G O h3=>(Z RW) x' i q at' pD sr _ w' rfl sN (Z HB) ER hik hat'.symm G O h3;generalize up nb i cn=Dw at*;generalize up V i (kC 0 (V i))=pZ at*;have LI:=Gw.1;have V3:=Gw.2.1;have G5:=χ (γ w4.heap.size w4) (.cells #[.int .i64 (i:Int),.int .i64 at',.int .i64 0] 293);have lZ:=I (Xl.b G5);have mU:=I (VR.b G5);have xI:=I (((bD.below (Z fY)).trans (Z xO)).trans (bD.below G5));have q:=θ w4 #[.int .i64 (i:Int),.int .i64 at',.int .i64 0] 293;have q0:=q 0;have q1:=q 1;have q2:=q 2;simp only[Δ,υ,ω]at q0 q1 q2;have NP:w4.heap.size<(w4.alloc (.cells #[.int .i64 (i:Int),.int .i64 at',.int .i64 0] 293)).heap.size:=by simp
      have abS:i<1000:=by omega
      clear KR ER ud iq fY RN RW Gw AL ht wL Xl VR xO rz4 k4 tgn hat qH G5 q hat' c0r;go_upto_region 17 with(fail);generalize w4.alloc (.cells #[.int .i64 (i:Int),.int .i64 at',.int .i64 0] 293)=W4 at*;obtain⟨ZZ,hZZ,hmk⟩:=Bp m AX;have SQ:Int.tdiv 64 sz=(m:Int):=(Int.tdiv_eq_ediv_of_nonneg (by omega)).trans (Z lY).2.2.symm;have QX:IntKind.i64.wrap (m:Int)=(m:Int):=aB _ (by omega);have Xm:IntKind.i64.wrap (Int.tdiv 64 sz)=(m:Int):=by rw[SQ];exact QX
      have aaX:wrap64 (Int.tdiv 64 sz)=(m:Int):=(IntWalk.i64_left _).symm.trans Xm;have Xn:(sz==0)=false:=by have:=(Z lY).1;simp;omega
      have Xo:¬sz=0:=by have:=(Z lY).1;omega
      have c1:=(Z lZ).K.c1;have p0:=q0;have p1:=q1;have p2:=q2;have p0a:=λo=>((χ (γ W4.heap.size W4) o).cell (p:=⟨w4.heap.size,0,none⟩) NP).trans p0;go_region
      clear SQ QX Xm aaX Xn Xo p0a q0 q1 q2 hmk;have e5:(W4.alloc (.cells ZZ 4)).heap.size=W4.heap.size+1:=by simp
      have n5:=θ (W4.alloc (.cells ZZ 4)) #[.int .i64 (i:Int),.int .i64 at',.int .i64 0,.slice (some ⟨W4.heap.size,0,none⟩) m m] 305;have t5:=bB (W4.alloc (.cells ZZ 4)) #[.int .i64 (i:Int),.int .i64 at',.int .i64 0,.slice (some ⟨W4.heap.size,0,none⟩) m m] 305;rw[e5]at n5 t5;have g5:=χ (γ (W4.alloc (.cells ZZ 4)).heap.size (W4.alloc (.cells ZZ 4))) (.cells #[.int .i64 (i:Int),.int .i64 at',.int .i64 0,.slice (some ⟨W4.heap.size,0,none⟩) m m] 305);have B6:Below W4.heap.size W4 ((W4.alloc (.cells ZZ 4)).alloc (.cells #[.int .i64 (i:Int),.int .i64 at',.int .i64 0,.slice (some ⟨W4.heap.size,0,none⟩) m m] 305)).drew:=(χ (χ (γ _ _) _) _).drew;have S6:Jp ((W4.alloc (.cells ZZ 4)).alloc (.cells #[.int .i64 (i:Int),.int .i64 at',.int .i64 0,.slice (some ⟨W4.heap.size,0,none⟩) m m] 305)).drew (W4.heap.size+1) W4.heap.size m ⟨i,at',0⟩:=by
       refine⟨n5 0,n5 1,n5 2,n5 3,λj E=>?_,t5,(bB W4 ZZ 4).b g5.drew,λo=>?_⟩
       ·have G:((W4.alloc (.cells ZZ 4)).alloc (.cells #[.int .i64 (i:Int),.int .i64 at',.int .i64 0,.slice (some ⟨W4.heap.size,0,none⟩) m m] 305)).cell? ⟨W4.heap.size,j,none⟩=(W4.alloc (.cells ZZ 4)).cell? ⟨W4.heap.size,j,none⟩:=g5.cell (p:=⟨W4.heap.size,j,none⟩) (by rw[e5];simp);refine G.trans ((θ W4 ZZ 4 j).trans ((hZZ j E).trans ?_));simp
       ·have G:((W4.alloc (.cells ZZ 4)).alloc (.cells #[.int .i64 (i:Int),.int .i64 at',.int .i64 0,.slice (some ⟨W4.heap.size,0,none⟩) m m] 305)).frozen? ⟨W4.heap.size,o,none⟩=(W4.alloc (.cells ZZ 4)).frozen? ⟨W4.heap.size,o,none⟩:=g5.frozen (p:=⟨W4.heap.size,o,none⟩) (by rw[e5];simp);exact G.trans (aG _ _ W4.heap.size o rfl)
      have La:=I B6;have Us:=I S6;clear n5 t5 g5 e5 B6 S6 hZZ;generalize((W4.alloc (.cells ZZ 4)).alloc (.cells #[.int .i64 (i:Int),.int .i64 at',.int .i64 0,.slice (some ⟨W4.heap.size,0,none⟩) m m] 305)).drew=W6 at*;have Fz:=I ((Z lZ).b (Z La));have yv:=I ((Z mU).b (Z La));have SR:=I ((Z xI).trans (bD.below (Z La)));have P0:=((Z La).cell (p:=⟨w4.heap.size,0,none⟩) NP).trans p0;have P1:=((Z La).cell (p:=⟨w4.heap.size,1,none⟩) NP).trans p1;have Sq:w4.heap.size<W6.heap.size:=ι NP (Z La).size;have hW4:w.heap.size<=W4.heap.size:=(Z xI).size;have hTN:Hid (W4.heap.size∉ts):=λ(hm:W4.heap.size∈ts)=>by
       obtain⟨a,ha⟩:=List.mem_iff_getElem?.mp hm;have QB:a<Q.length:=by rw[<- (Z lZ).K.lt];exact(ν.mp ha).1
       obtain⟨b',t',s',_,et',_,Fb⟩:=(Z lZ).K.slab QB;rw[ha]at et';cases et'
       exact absurd Fb.tt.lt (by omega)
      clear p0 p1 p2 c1 lZ mU xI La;go_wp2_with fail;go_loopw [15] (λs15 wr=>∃q:Nat,s15=.int .i64 q/\q<=Q.length/\Hid (Below W6.heap.size W6 wr)/\Hid (∀t s,t<q->Q[t]?=some s->lt s i at')) (λs15 _=>Q.length-(intOf s15).toNat)
      case atStart=>exact⟨0,rfl,Γ _,γ _ _,λt s ht=>by omega⟩
      case round =>
       obtain⟨q,rfl,hq,hB,hL⟩:=hrel;have SD:(0:Int)<=q:=by omega
       have pp0:=((Z hB).cell (p:=⟨w4.heap.size,0,none⟩) Sq).trans P0;have pp1:=((Z hB).cell (p:=⟨w4.heap.size,1,none⟩) Sq).trans P1;have kZ:=I ((Z Fz).b (Z hB));have Ut:=Z kZ;have qw:Hid (Pos Q i at' q->∀v w7,Below wr.heap.size wr w7->w7.ownsRow wr.heap.size 302 1 v (Q.length+1) (dS (Sb.ins bs q (W4.heap.size+1)))->RR N0 (w7.setCell ⟨c,2,none⟩ v) c z sz m (Sb.ins bs q (W4.heap.size+1)) (Sb.ins ts q W4.heap.size) (Sb.ins Q q ⟨i,at',0⟩) mn lw hi k Dw pZ fr/\bD R4 N0 w (w7.setCell ⟨c,2,none⟩ v)):=λhp v w7 FB ho7=>by
        have hC:=(Z kZ).K;obtain⟨r1,r2⟩:=hC.NC (w':=w7) FB (pD:=Sb.ins bs q (W4.heap.size+1)) (sr:=Sb.ins ts q W4.heap.size) (nu:=Sb.ins Q q ⟨i,at',0⟩) (cM ho7) (by rw[ek,hC.len]) ho7 (by have:=(Z SR).size;have:=(Z hB).size;omega) (by rw[ek,ek,hC.len]) (by rw[ek,ek,hC.lt]) (Fw hC.tn (Z hTN)) (λt ht=>by
         rcases nV.mp ht with rfl|h'
         ·omega
         ·exact hC.gt t h') (λj b t u G O h3=>by
         have e1:=hC.len;have e2:=hC.lt;rw[cF _ (by omega)]at G O h3;by_cases j1:j<q
         ·rw[af j1]at G O h3;exact(hC.sl j b t u G O h3).b FB
         ·rw[ai j1]at G O h3;by_cases j2:j=q
          ·rw[af j2]at G O h3;cases G;cases O;cases h3
           exact((Z Us).b (Z hB)).b FB
          ·rw[ai j2]at G O h3;exact(hC.sl (j-1) b t u G O h3).b FB)
        exact⟨(Z kZ).rT (r2.mono (by decide) (ζ _)) r1,((Z SR).trans (bD.below (Z hB))).trans (r2.mono (by decide) (ζ _))⟩
       have ld:=Ut.K.tg.lt;have Q7:=Ut.K.cf 2;have hlen:=Ut.K.len;have Wi:dS (Sb.ins bs q (W4.heap.size+1))=dS (bs.take q)++[ptr (W4.heap.size+1)]++dS (bs.drop q):=by
        unfold Sb.ins dS;simp
       have Uu:=I Wi;have HT:Hid ((dS (bs.take q)).length=q*1):=by show _=_;rw[yG,cI];omega
       have HD:Hid ((dS (bs.drop q)).length=(Q.length-q)*1):=by show _=_;rw[yG,dW];omega
       have ZK:=Ut.K.SP;have FC:=I (λ(h:q<Q.length)=>Ut.K.slab h);clear Ut Wi;rcases ZK with⟨e4,hn0⟩|⟨g4,d4,e4,hg4,hd4,hd5,ZM⟩
       ·obtain rfl:q=0:=by omega
        have pJ:Hid (Pos Q i at' 0):=vW (Z NN) hq (Z hL) (λs hs=>by have:=(ν.mp hs).1;omega);have aaY:Hid (dS (Sb.ins bs 0 (W4.heap.size+1))=[ptr (W4.heap.size+1)]):=by show _=_;rw[List.eq_nil_of_length_eq_zero (show bs.length=0 by omega)];rfl
        have HN0:=I hn0;clear hn0;go_wp2_with fail;go_quiet (fail);have eU:True:=trivial;go_wp2_with (first
         |(at_builtin;have _t:=eU;refine dO rfl (.tmp 169) (.tmp 175) 138 rfl wr.heap.size 302 i0 1 underlying138 (Z HI) _ 0 [] rfl (Ξ _ _ _ _) rfl ?_;clear eU;have O5:Hid ((wr.drewN nq).ownsRow wr.heap.size 302 1 (.slice none 0 0) 0 []):=Ξ _ _ _ _;have B5:Hid (Below wr.heap.size wr (wr.drewN nq)):=iB (γ _ _) _;have jg:True:=trivial)
         |(at_builtin;have _t:=jg;refine Ω _ rfl (.tmp 177) (.tmp 179) 138 rfl wr.heap.size 302 i0 (.pointer none) 1 8 underlying138 (Z HI) (Z HZ) (Z eI) (Z eJ) rfl (by decide) _ _ _ rfl ((Z O5).alloc _) ⟨wr.heap.size,0,none⟩ 1 1 [.pointer (some ⟨W4.heap.size+1,0,none⟩)] rfl rfl (rX _ _ _) (by intro u hu;simp at hu;subst hu;rfl) (by unfold maxLen;omega) (by omega) (by have:=(Z B5).size;simp) ?_;intro v6 w6 o6 g6 n6;obtain⟨p6,d6,rfl⟩:=cM o6;have b6:Below wr.heap.size wr w6:=((Z B5).alloc (Z B5).size _).grown g6 (by have:=(Z B5).size;simp) (bL (Z O5));have a66:=(b6.cell (p:=⟨c,2,none⟩) ld).trans e4;have B6:=I b6;have O6:=I o6;clear o6 g6 n6 b6 jg;have ou:True:=trivial)
         |(at_builtin;have _t:=ou;refine dO rfl (.tmp 182) (.tmp 188) 138 rfl wr.heap.size 302 i0 1 underlying138 (Z HI) _ _ _ rfl (Z O6) rfl ?_;clear ou;have f66:=((Z B6).frozen (p:=⟨c,2,none⟩) ld).trans Q7))
        have nC:=I ((Z qw) (Z pJ) _ w6 (Z B6) (by rw[Z aaY,Z HN0];exact Z O6));have kK:=I (Z nC).1;have Dx:=I (Z nC).2;have oJ:Hid (Rx (w6.setCell ⟨c,2,none⟩ (.slice p6 (0+1) d6)) w.heap.size (.int .i64 0) (.int .i64 0)):=(((Z yv).b (Z hB)).b (Z B6)).c (bD.set (N:=0) ((Z kZ).b (Z B6)).K.tg (Γ _) 2 _) (by decide);have vX:Hid ((Sb.ins bs 0 (W4.heap.size+1))[0]?=some (W4.heap.size+1)):=by show _=_;rw[cF _ (by omega),ai (by omega),af rfl]
        have vZ:Hid ((Sb.ins ts 0 W4.heap.size)[0]?=some W4.heap.size):=by show _=_;rw[cF _ (by have:=(Z kZ).K.lt;omega),ai (by omega),af rfl]
        have Dy:Hid ((Sb.ins Q 0 ⟨i,at',0⟩)[0]?=some ⟨i,at',0⟩):=by show _=_;rw[cF _ (by omega),ai (by omega),af rfl]
        clear nC qw yv kZ Fz Us SR B6 O6 B5 O5;generalize w6.setCell ⟨c,2,none⟩ (.slice p6 (0+1) d6)=W8 at*;have S8:=I ((Z kK).K.sl 0 _ _ _ (Z vX) (Z vZ) (Z Dy));have yI:Hid (Below W8.heap.size W8 W8):=γ _ _;have su:0<m:=by
         have h5:(1:Int)<=64/sz:=dT (by have:=(Z lY).1;omega) (by have:=(Z lY).2.1;omega);have:=(Z lY).2.2;omega
        go_loopw [17] (λFy wr=>Fy=.int .i64 0/\Hid (Below W8.heap.size W8 wr)) (λ_ _=>0)
        case atStart=>exact⟨rfl,yI⟩
        case round =>
         clear yI;obtain⟨rfl,ov⟩:=hrel;have nG:=(Z S8).b (Z ov);have s3:=nG.c3;have DA:=nG.row 0 su;have fr:wr.cell? ⟨W4.heap.size,0,none⟩=some (.bool false):=by simpa using DA
         have JN:=nG.fz 0;have Pp:(0:Int)<m:=by omega
         have v_:=I ((Z kK).b (Z ov));have gP:=I ((Z v_).K.turn (Z vX) (Z vZ) (Z Dy) (k:=0) 1 true su (by decide) (λj E=>by
          rw[fx];cases j with
          |zero=>exact absurd rfl E
          |succ j=>simp[Nat.testBit_succ]))
         have kU:=I ((Z oJ).b (Z ov));have DD:=I ((Z Dx).trans (bD.below (Z ov)));have Xk:IntKind.i64.wrap (at'*64)=at'*64:=aB _ (by omega);clear nG DA kK oJ Dx ov;go_upto_region 29 with(fail);have mF:=(Z v_).rT ((Z gP).2.mono (by decide) (ζ _)) (Z gP).1;have JO:=I ((Z DD).trans ((Z gP).2.mono (by decide:∀t∈[some 4],t∈R4) (ζ _)));have ki:=(Z kU).c (Z gP).2 (by decide);have kY:(Sb.ins Q 0 (⟨i,at',0⟩:Sl)).set 0 {(⟨i,at',0⟩:Sl)with bm:=1}=Sb.ins Q 0 ⟨i,at',1⟩:=mB (by omega);rw[kY]at mF;have S5:=mF.K.sl 0 _ _ _ (Z vX) (Z vZ) (by rw[cF _ (by omega),ai (by omega),af rfl]);have lZ:=I mF;have l8:=I ki;have k1:=mF.K.c1;have k0:=S5.c0;have ka:=S5.c1;have r0:=ki.c0;have r1:=ki.c1;have f0:=ki.fz 0;have f1:=ki.fz 1;clear mF ki S5 gP v_ kU DD s3 fr JN S8 kY;generalize wr.setCell ⟨W4.heap.size,0,none⟩ (.bool true)=W5 at*;simp only at k0 ka;obtain⟨t0,t1⟩:=aW (W:=W5) r0 r1 (.int .i64 (i:Int)) (.int .i64 (at'*64));go_region
         go_wp2;refine Θ (v:=.tuple #[.agg #[.int .i64 i,.int .i64 (at'*64)],.int .i64 0]) (by simp[results,results102,go_sem,t0,t1];try rfl) rfl ?_;exact(Z yJ) 0 _ _ _ (Z pJ) (((Z lZ).n_ ((bD.set (Z l8).tg (Γ _) 0 (.int .i64 (i:Int))).trans (bD.set ((Z l8).tg.set _ _) (Γ _) 1 (.int .i64 (at'*64)))) (by decide)).b (dw _)) (((Z JO).fresh (ζ _) 0 _).fresh (ζ _) 1 _).drew
       ·have Et:Hid (∀j' u,(dS (bs.take q))[j']?=some u->wr.cell? ((⟨g4,0,none⟩:Addr).add j')=some u):=yH ZM (λi b J=>by
         rw[eN]at J;split at J
         ·rw[bj];exact J
         ·cases J)
        have zS:Hid (∀j' u,(dS (bs.drop q))[j']?=some u->wr.cell? ((⟨g4,q,none⟩:Addr).add j')=some u):=yH ZM (λi b J=>by rw[cP]at J;exact J);have Uv:=I ZM;unfold maxLen at hd5;clear ZM;by_cases VS:q<Q.length
        ·obtain⟨b,t,s,eb,et,es,hS⟩:=(Z FC) VS;have gb:=(Z Uv) q b eb;have s0:=hS.c0;have s1:=hS.c1;unfold ptr at gb;have Gk:decide ((q:Int)<(Q.length:Int))=true:=by simp;omega
         have Lm:decide (q<Q.length)=true:=by simp;omega
         have hqi:(q:Int)<(Q.length:Int):=by omega
         have Gu:=I es;by_cases hA:s.V<i
         ·have hdA:decide ((s.V:Int)<(i:Int))=true:=by simp;omega
          have aaZ:decide (s.V<i)=true:=by simp;omega
          have hL2:Hid (∀t s,t<q+1->Q[t]?=some s->lt s i at'):=λt' s' G O=>by
           rcases bC t' q with h|h
           ·exact(Z hL) t' s' h O
           ·obtain rfl:t'=q:=by omega
            rw[Z Gu]at O;cases O
            exact ε hA
          clear es eb et hS qw Uu HT HD Et zS FC hL Uv;go_wp2_with fail;go_quiet (fail);go_wp2_with fail;go_roundw;case rel=>exact⟨q+1,by go_num,by omega,iB (Z hB) _,hL2⟩
          case measure=>simp[intOf];omega
         ·have hdA:decide ((s.V:Int)<(i:Int))=false:=by simp;omega
          have aaZ:decide (s.V<i)=false:=by simp;omega
          by_cases ZN:s.V=i
          ·have hdB:((s.V:Int)==(i:Int))=true:=by simp;omega
           have aa0:decide ((s.V:Int)=(i:Int))=true:=by simp;omega
           have aa1:decide (s.V=i)=true:=by simp;omega
           by_cases hCq:s.at_<at'
           ·have hdC:decide (s.at_<at')=true:=by simpa using hCq
            have hL2:Hid (∀t s,t<q+1->Q[t]?=some s->lt s i at'):=λt' s' G O=>by
             rcases bC t' q with h|h
             ·exact(Z hL) t' s' h O
             ·obtain rfl:t'=q:=by omega
              rw[Z Gu]at O;cases O
              exact δ ⟨ZN,hCq⟩
            clear es eb et hS qw Uu HT HD Et zS FC hL Uv ZN;go_wp2_with fail;go_quiet (fail);go_wp2_with fail;go_roundw;case rel=>exact⟨q+1,by go_num,by omega,iB (Z hB) _,hL2⟩
            case measure=>simp[intOf];omega
           ·have hdC:decide (s.at_<at')=false:=by simpa using hCq
            have pJ:Hid (Pos Q i at' q):=vW (Z NN) hq (Z hL) (λs' hs hl=>by
             rw[Z Gu]at hs;cases hs
             unfold lt at hl;omega)
            clear es eb et hS FC hL Uv ZN;go_wp2_with fail;go_quiet (fail);have eU:True:=trivial;go_wp2_with (first
             |(at_builtin;have _t:=eU;refine Ω _ rfl (.tmp 169) (.tmp 175) 138 rfl wr.heap.size 302 i0 (.pointer none) 1 8 underlying138 (Z HI) (Z HZ) (Z eI) (Z eJ) rfl (by decide) _ 0 [] rfl (Ξ _ _ _ _) _ _ _ (dS (bs.take q)) rfl (Z HT) (Z Et) (ju _) (by unfold maxLen;omega) (by omega) (ζ _) ?_;intro v5 w5 o5 g5 n5;rw[bj,aT]at o5;obtain⟨p5,d5,rfl⟩:=cM o5;have b5:Below wr.heap.size wr w5:=(iB (γ wr.heap.size wr) nq).grown g5 (ζ _) (λk D=>by cases D);have a55:=(b5.cell (p:=⟨c,2,none⟩) ld).trans e4;have B5:=I b5;have O5:=I o5;clear o5 g5 n5 b5 eU;have jg:True:=trivial)
             |(at_builtin;have _t:=jg;refine Ω _ rfl (.tmp 177) (.tmp 179) 138 rfl wr.heap.size 302 i0 (.pointer none) 1 8 underlying138 (Z HI) (Z HZ) (Z eI) (Z eJ) rfl (by decide) _ _ _ rfl ((Z O5).alloc _) ⟨w5.heap.size,0,none⟩ 1 1 [.pointer (some ⟨W4.heap.size+1,0,none⟩)] rfl rfl (rX _ _ _) (by intro u hu;simp at hu;subst hu;rfl) (by unfold maxLen;omega) (by omega) (by have:=(Z B5).size;simp;omega) ?_;intro v6 w6 o6 g6 n6;obtain⟨p6,d6,rfl⟩:=cM o6;have b6:Below wr.heap.size wr w6:=((Z B5).alloc (Z B5).size _).grown g6 (by have:=(Z B5).size;simp;omega) (bL (Z O5));have a66:=(b6.cell (p:=⟨c,2,none⟩) ld).trans e4;have B6:=I b6;have O6:=I o6;clear o6 g6 n6 b6 jg;have ou:True:=trivial)
             |(at_builtin;have _t:=ou;have N6:Hid (∀j' u,(dS (bs.drop q))[j']?=some u->w6.cell? ((⟨g4,q,none⟩:Addr).add j')=some u):=rW hg4 (Z B6) (Z zS);refine Ω _ rfl (.tmp 182) (.tmp 188) 138 rfl wr.heap.size 302 i0 (.pointer none) 1 8 underlying138 (Z HI) (Z HZ) (Z eI) (Z eJ) rfl (by decide) _ _ _ rfl (Z O6) _ _ _ (dS (bs.drop q)) rfl (Z HD) (Z N6) (ju _) (by unfold maxLen;omega) (by omega) (Z B6).size ?_;intro v7 w7 o7 g7 n7;rw[show q+1+(Q.length-q)=Q.length+1 by omega]at o7;obtain⟨p7,d7,rfl⟩:=cM o7;have b7:Below wr.heap.size wr w7:=(Z B6).grown g7 (Z B6).size (bL (Z O6));have a77:=(b7.cell (p:=⟨c,2,none⟩) ld).trans e4;have f77:=(b7.frozen (p:=⟨c,2,none⟩) ld).trans Q7;have O7:=I o7;have B7:=I b7;clear o7 g7 n7 b7 ou))
            have nC:=I ((Z qw) (Z pJ) _ w7 (Z B7) (by rw[Z Uu];exact Z O7));have kK:=I (Z nC).1;have Dx:=I (Z nC).2;have oJ:Hid (Rx (w7.setCell ⟨c,2,none⟩ (.slice p7 (Q.length+1) d7)) w.heap.size (.int .i64 0) (.int .i64 0)):=(((Z yv).b (Z hB)).b (Z B7)).c (bD.set (N:=0) ((Z kZ).b (Z B7)).K.tg (Γ _) 2 _) (by decide);have vX:Hid ((Sb.ins bs q (W4.heap.size+1))[q]?=some (W4.heap.size+1)):=by show _=_;rw[cF _ (by omega),ai (by omega),af rfl]
            have vZ:Hid ((Sb.ins ts q W4.heap.size)[q]?=some W4.heap.size):=by show _=_;rw[cF _ (by have:=(Z kZ).K.lt;omega),ai (by omega),af rfl]
            have Dy:Hid ((Sb.ins Q q ⟨i,at',0⟩)[q]?=some ⟨i,at',0⟩):=by show _=_;rw[cF _ (by omega),ai (by omega),af rfl]
            clear nC qw yv kZ Fz Us SR B6 O6 B5 O5 B7 O7;generalize w7.setCell ⟨c,2,none⟩ (.slice p7 (Q.length+1) d7)=W8 at*;have S8:=I ((Z kK).K.sl q _ _ _ (Z vX) (Z vZ) (Z Dy));have yI:Hid (Below W8.heap.size W8 W8):=γ _ _;have su:0<m:=by
             have h5:(1:Int)<=64/sz:=dT (by have:=(Z lY).1;omega) (by have:=(Z lY).2.1;omega);have:=(Z lY).2.2;omega
            go_loopw [17] (λFy wr=>Fy=.int .i64 0/\Hid (Below W8.heap.size W8 wr)) (λ_ _=>0)
            case atStart=>exact⟨rfl,yI⟩
            case round =>
             clear yI;obtain⟨rfl,ov⟩:=hrel;have nG:=(Z S8).b (Z ov);have s3:=nG.c3;have DA:=nG.row 0 su;have fr:wr.cell? ⟨W4.heap.size,0,none⟩=some (.bool false):=by simpa using DA
             have JN:=nG.fz 0;have Pp:(0:Int)<m:=by omega
             have v_:=I ((Z kK).b (Z ov));have gP:=I ((Z v_).K.turn (Z vX) (Z vZ) (Z Dy) (k:=0) 1 true su (by decide) (λj E=>by
              rw[fx];cases j with
              |zero=>exact absurd rfl E
              |succ j=>simp[Nat.testBit_succ]))
             have kU:=I ((Z oJ).b (Z ov));have DD:=I ((Z Dx).trans (bD.below (Z ov)));have Xk:IntKind.i64.wrap (at'*64)=at'*64:=aB _ (by omega);clear nG DA kK oJ Dx ov;go_upto_region 29 with(fail);have mF:=(Z v_).rT ((Z gP).2.mono (by decide) (ζ _)) (Z gP).1;have JO:=I ((Z DD).trans ((Z gP).2.mono (by decide:∀t∈[some 4],t∈R4) (ζ _)));have ki:=(Z kU).c (Z gP).2 (by decide);have kY:(Sb.ins Q q (⟨i,at',0⟩:Sl)).set q {(⟨i,at',0⟩:Sl)with bm:=1}=Sb.ins Q q ⟨i,at',1⟩:=mB (by omega);rw[kY]at mF;have S5:=mF.K.sl q _ _ _ (Z vX) (Z vZ) (by rw[cF _ (by omega),ai (by omega),af rfl]);have lZ:=I mF;have l8:=I ki;have k1:=mF.K.c1;have k0:=S5.c0;have ka:=S5.c1;have r0:=ki.c0;have r1:=ki.c1;have f0:=ki.fz 0;have f1:=ki.fz 1;clear mF ki S5 gP v_ kU DD s3 fr JN S8 kY;generalize wr.setCell ⟨W4.heap.size,0,none⟩ (.bool true)=W5 at*;simp only at k0 ka;obtain⟨t0,t1⟩:=aW (W:=W5) r0 r1 (.int .i64 (i:Int)) (.int .i64 (at'*64));go_region
             go_wp2;refine Θ (v:=.tuple #[.agg #[.int .i64 i,.int .i64 (at'*64)],.int .i64 0]) (by simp[results,results102,go_sem,t0,t1];try rfl) rfl ?_;exact(Z yJ) q _ _ _ (Z pJ) (((Z lZ).n_ ((bD.set (Z l8).tg (Γ _) 0 (.int .i64 (i:Int))).trans (bD.set ((Z l8).tg.set _ _) (Γ _) 1 (.int .i64 (at'*64)))) (by decide)).b (dw _)) (((Z JO).fresh (ζ _) 0 _).fresh (ζ _) 1 _).drew
          ·have hdB:((s.V:Int)==(i:Int))=false:=by simp;omega
           have aa0:decide ((s.V:Int)=(i:Int))=false:=by simp;omega
           have aa1:decide (s.V=i)=false:=by simp;omega
           have pJ:Hid (Pos Q i at' q):=vW (Z NN) hq (Z hL) (λs' hs hl=>by
            rw[Z Gu]at hs;cases hs
            unfold lt at hl;omega)
           clear es eb et hS FC hL Uv ZN;go_wp2_with fail;go_quiet (fail);have eU:True:=trivial;go_wp2_with (first
            |(at_builtin;have _t:=eU;refine Ω _ rfl (.tmp 169) (.tmp 175) 138 rfl wr.heap.size 302 i0 (.pointer none) 1 8 underlying138 (Z HI) (Z HZ) (Z eI) (Z eJ) rfl (by decide) _ 0 [] rfl (Ξ _ _ _ _) _ _ _ (dS (bs.take q)) rfl (Z HT) (Z Et) (ju _) (by unfold maxLen;omega) (by omega) (ζ _) ?_;intro v5 w5 o5 g5 n5;rw[bj,aT]at o5;obtain⟨p5,d5,rfl⟩:=cM o5;have b5:Below wr.heap.size wr w5:=(iB (γ wr.heap.size wr) nq).grown g5 (ζ _) (λk D=>by cases D);have a55:=(b5.cell (p:=⟨c,2,none⟩) ld).trans e4;have B5:=I b5;have O5:=I o5;clear o5 g5 n5 b5 eU;have jg:True:=trivial)
            |(at_builtin;have _t:=jg;refine Ω _ rfl (.tmp 177) (.tmp 179) 138 rfl wr.heap.size 302 i0 (.pointer none) 1 8 underlying138 (Z HI) (Z HZ) (Z eI) (Z eJ) rfl (by decide) _ _ _ rfl ((Z O5).alloc _) ⟨w5.heap.size,0,none⟩ 1 1 [.pointer (some ⟨W4.heap.size+1,0,none⟩)] rfl rfl (rX _ _ _) (by intro u hu;simp at hu;subst hu;rfl) (by unfold maxLen;omega) (by omega) (by have:=(Z B5).size;simp;omega) ?_;intro v6 w6 o6 g6 n6;obtain⟨p6,d6,rfl⟩:=cM o6;have b6:Below wr.heap.size wr w6:=((Z B5).alloc (Z B5).size _).grown g6 (by have:=(Z B5).size;simp;omega) (bL (Z O5));have a66:=(b6.cell (p:=⟨c,2,none⟩) ld).trans e4;have B6:=I b6;have O6:=I o6;clear o6 g6 n6 b6 jg;have ou:True:=trivial)
            |(at_builtin;have _t:=ou;have N6:Hid (∀j' u,(dS (bs.drop q))[j']?=some u->w6.cell? ((⟨g4,q,none⟩:Addr).add j')=some u):=rW hg4 (Z B6) (Z zS);refine Ω _ rfl (.tmp 182) (.tmp 188) 138 rfl wr.heap.size 302 i0 (.pointer none) 1 8 underlying138 (Z HI) (Z HZ) (Z eI) (Z eJ) rfl (by decide) _ _ _ rfl (Z O6) _ _ _ (dS (bs.drop q)) rfl (Z HD) (Z N6) (ju _) (by unfold maxLen;omega) (by omega) (Z B6).size ?_;intro v7 w7 o7 g7 n7;rw[show q+1+(Q.length-q)=Q.length+1 by omega]at o7;obtain⟨p7,d7,rfl⟩:=cM o7;have b7:Below wr.heap.size wr w7:=(Z B6).grown g7 (Z B6).size (bL (Z O6));have a77:=(b7.cell (p:=⟨c,2,none⟩) ld).trans e4;have f77:=(b7.frozen (p:=⟨c,2,none⟩) ld).trans Q7;have O7:=I o7;have B7:=I b7;clear o7 g7 n7 b7 ou))
           have nC:=I ((Z qw) (Z pJ) _ w7 (Z B7) (by rw[Z Uu];exact Z O7));have kK:=I (Z nC).1;have Dx:=I (Z nC).2;have oJ:Hid (Rx (w7.setCell ⟨c,2,none⟩ (.slice p7 (Q.length+1) d7)) w.heap.size (.int .i64 0) (.int .i64 0)):=(((Z yv).b (Z hB)).b (Z B7)).c (bD.set (N:=0) ((Z kZ).b (Z B7)).K.tg (Γ _) 2 _) (by decide);have vX:Hid ((Sb.ins bs q (W4.heap.size+1))[q]?=some (W4.heap.size+1)):=by show _=_;rw[cF _ (by omega),ai (by omega),af rfl]
           have vZ:Hid ((Sb.ins ts q W4.heap.size)[q]?=some W4.heap.size):=by show _=_;rw[cF _ (by have:=(Z kZ).K.lt;omega),ai (by omega),af rfl]
           have Dy:Hid ((Sb.ins Q q ⟨i,at',0⟩)[q]?=some ⟨i,at',0⟩):=by show _=_;rw[cF _ (by omega),ai (by omega),af rfl]
           clear nC qw yv kZ Fz Us SR B6 O6 B5 O5 B7 O7;generalize w7.setCell ⟨c,2,none⟩ (.slice p7 (Q.length+1) d7)=W8 at*;have S8:=I ((Z kK).K.sl q _ _ _ (Z vX) (Z vZ) (Z Dy));have yI:Hid (Below W8.heap.size W8 W8):=γ _ _;have su:0<m:=by
            have h5:(1:Int)<=64/sz:=dT (by have:=(Z lY).1;omega) (by have:=(Z lY).2.1;omega);have:=(Z lY).2.2;omega
           go_loopw [17] (λFy wr=>Fy=.int .i64 0/\Hid (Below W8.heap.size W8 wr)) (λ_ _=>0)
           case atStart=>exact⟨rfl,yI⟩
           case round =>
            clear yI;obtain⟨rfl,ov⟩:=hrel;have nG:=(Z S8).b (Z ov);have s3:=nG.c3;have DA:=nG.row 0 su;have fr:wr.cell? ⟨W4.heap.size,0,none⟩=some (.bool false):=by simpa using DA
            have JN:=nG.fz 0;have Pp:(0:Int)<m:=by omega
            have v_:=I ((Z kK).b (Z ov));have gP:=I ((Z v_).K.turn (Z vX) (Z vZ) (Z Dy) (k:=0) 1 true su (by decide) (λj E=>by
             rw[fx];cases j with
             |zero=>exact absurd rfl E
             |succ j=>simp[Nat.testBit_succ]))
            have kU:=I ((Z oJ).b (Z ov));have DD:=I ((Z Dx).trans (bD.below (Z ov)));have Xk:IntKind.i64.wrap (at'*64)=at'*64:=aB _ (by omega);clear nG DA kK oJ Dx ov;go_upto_region 29 with(fail);have mF:=(Z v_).rT ((Z gP).2.mono (by decide) (ζ _)) (Z gP).1;have JO:=I ((Z DD).trans ((Z gP).2.mono (by decide:∀t∈[some 4],t∈R4) (ζ _)));have ki:=(Z kU).c (Z gP).2 (by decide);have kY:(Sb.ins Q q (⟨i,at',0⟩:Sl)).set q {(⟨i,at',0⟩:Sl)with bm:=1}=Sb.ins Q q ⟨i,at',1⟩:=mB (by omega);rw[kY]at mF;have S5:=mF.K.sl q _ _ _ (Z vX) (Z vZ) (by rw[cF _ (by omega),ai (by omega),af rfl]);have lZ:=I mF;have l8:=I ki;have k1:=mF.K.c1;have k0:=S5.c0;have ka:=S5.c1;have r0:=ki.c0;have r1:=ki.c1;have f0:=ki.fz 0;have f1:=ki.fz 1;clear mF ki S5 gP v_ kU DD s3 fr JN S8 kY;generalize wr.setCell ⟨W4.heap.size,0,none⟩ (.bool true)=W5 at*;simp only at k0 ka;obtain⟨t0,t1⟩:=aW (W:=W5) r0 r1 (.int .i64 (i:Int)) (.int .i64 (at'*64));go_region
            go_wp2;refine Θ (v:=.tuple #[.agg #[.int .i64 i,.int .i64 (at'*64)],.int .i64 0]) (by simp[results,results102,go_sem,t0,t1];try rfl) rfl ?_;exact(Z yJ) q _ _ _ (Z pJ) (((Z lZ).n_ ((bD.set (Z l8).tg (Γ _) 0 (.int .i64 (i:Int))).trans (bD.set ((Z l8).tg.set _ _) (Γ _) 1 (.int .i64 (at'*64)))) (by decide)).b (dw _)) (((Z JO).fresh (ζ _) 0 _).fresh (ζ _) 1 _).drew
        ·obtain rfl:q=Q.length:=by omega
         have Gk:decide ((Q.length:Int)<(Q.length:Int))=false:=by simp
         have Lm:decide (Q.length<Q.length)=false:=by simp
         have pJ:Hid (Pos Q i at' Q.length):=vW (Z NN) hq (Z hL) (λs' hs=>by have:=(ν.mp hs).1;omega);have hzd:Hid (dS (bs.drop Q.length)=[]):=by show _=_;rw[List.drop_of_length_le (by omega)];rfl
         clear FC hL Uv;by_cases hqc:Q.length=d4
         ·subst hqc;go_wp2_with fail;go_quiet (fail);have eU:True:=trivial;go_wp2_with (first
           |(at_builtin;have _t:=eU;refine Ω _ rfl (.tmp 169) (.tmp 175) 138 rfl wr.heap.size 302 i0 (.pointer none) 1 8 underlying138 (Z HI) (Z HZ) (Z eI) (Z eJ) rfl (by decide) _ 0 [] rfl (Ξ _ _ _ _) _ _ _ (dS (bs.take Q.length)) rfl (Z HT) (Z Et) (ju _) (by unfold maxLen;omega) (by omega) (ζ _) ?_;intro v5 w5 o5 g5 n5;rw[bj,aT]at o5;obtain⟨p5,d5,rfl⟩:=cM o5;have b5:Below wr.heap.size wr w5:=(iB (γ wr.heap.size wr) nq).grown g5 (ζ _) (λk D=>by cases D);have a55:=(b5.cell (p:=⟨c,2,none⟩) ld).trans e4;have B5:=I b5;have O5:=I o5;clear o5 g5 n5 b5 eU;have jg:True:=trivial)
           |(at_builtin;have _t:=jg;refine Ω _ rfl (.tmp 177) (.tmp 179) 138 rfl wr.heap.size 302 i0 (.pointer none) 1 8 underlying138 (Z HI) (Z HZ) (Z eI) (Z eJ) rfl (by decide) _ _ _ rfl ((Z O5).alloc _) ⟨w5.heap.size,0,none⟩ 1 1 [.pointer (some ⟨W4.heap.size+1,0,none⟩)] rfl rfl (rX _ _ _) (by intro u hu;simp at hu;subst hu;rfl) (by unfold maxLen;omega) (by omega) (by have:=(Z B5).size;simp;omega) ?_;intro v6 w6 o6 g6 n6;obtain⟨p6,d6,rfl⟩:=cM o6;have b6:Below wr.heap.size wr w6:=((Z B5).alloc (Z B5).size _).grown g6 (by have:=(Z B5).size;simp;omega) (bL (Z O5));have a66:=(b6.cell (p:=⟨c,2,none⟩) ld).trans e4;have B6:=I b6;have O6:=I o6;clear o6 g6 n6 b6 jg;have ou:True:=trivial)
           |(at_builtin;have _t:=ou;refine Ω _ rfl (.tmp 182) (.tmp 188) 138 rfl wr.heap.size 302 i0 (.pointer none) 1 8 underlying138 (Z HI) (Z HZ) (Z eI) (Z eJ) rfl (by decide) _ _ _ rfl (Z O6) _ 0 _ [] rfl rfl (by intro j u h;simp at h) (by intro u h;simp at h) (by unfold maxLen;omega) (by omega) (Z B6).size ?_;intro v7 w7 o7 g7 n7;rw[show Q.length+1+0=Q.length+1 by omega]at o7;obtain⟨p7,d7,rfl⟩:=cM o7;have b7:Below wr.heap.size wr w7:=(Z B6).grown g7 (Z B6).size (bL (Z O6));have a77:=(b7.cell (p:=⟨c,2,none⟩) ld).trans e4;have f77:=(b7.frozen (p:=⟨c,2,none⟩) ld).trans Q7;have O7:=I o7;have B7:=I b7;clear o7 g7 n7 b7 ou))
          have nC:=I ((Z qw) (Z pJ) _ w7 (Z B7) (by rw[Z Uu,Z hzd];exact Z O7));have kK:=I (Z nC).1;have Dx:=I (Z nC).2;have oJ:Hid (Rx (w7.setCell ⟨c,2,none⟩ (.slice p7 (Q.length+1) d7)) w.heap.size (.int .i64 0) (.int .i64 0)):=(((Z yv).b (Z hB)).b (Z B7)).c (bD.set (N:=0) ((Z kZ).b (Z B7)).K.tg (Γ _) 2 _) (by decide);have vX:Hid ((Sb.ins bs Q.length (W4.heap.size+1))[Q.length]?=some (W4.heap.size+1)):=by show _=_;rw[cF _ (by omega),ai (by omega),af rfl]
          have vZ:Hid ((Sb.ins ts Q.length W4.heap.size)[Q.length]?=some W4.heap.size):=by show _=_;rw[cF _ (by have:=(Z kZ).K.lt;omega),ai (by omega),af rfl]
          have Dy:Hid ((Sb.ins Q Q.length ⟨i,at',0⟩)[Q.length]?=some ⟨i,at',0⟩):=by show _=_;rw[cF _ (by omega),ai (by omega),af rfl]
          clear nC qw yv kZ Fz Us SR B6 O6 B5 O5 B7 O7;generalize w7.setCell ⟨c,2,none⟩ (.slice p7 (Q.length+1) d7)=W8 at*;have S8:=I ((Z kK).K.sl Q.length _ _ _ (Z vX) (Z vZ) (Z Dy));have yI:Hid (Below W8.heap.size W8 W8):=γ _ _;have su:0<m:=by
           have h5:(1:Int)<=64/sz:=dT (by have:=(Z lY).1;omega) (by have:=(Z lY).2.1;omega);have:=(Z lY).2.2;omega
          go_loopw [17] (λFy wr=>Fy=.int .i64 0/\Hid (Below W8.heap.size W8 wr)) (λ_ _=>0)
          case atStart=>exact⟨rfl,yI⟩
          case round =>
           clear yI;obtain⟨rfl,ov⟩:=hrel;have nG:=(Z S8).b (Z ov);have s3:=nG.c3;have DA:=nG.row 0 su;have fr:wr.cell? ⟨W4.heap.size,0,none⟩=some (.bool false):=by simpa using DA
           have JN:=nG.fz 0;have Pp:(0:Int)<m:=by omega
           have v_:=I ((Z kK).b (Z ov));have gP:=I ((Z v_).K.turn (Z vX) (Z vZ) (Z Dy) (k:=0) 1 true su (by decide) (λj E=>by
            rw[fx];cases j with
            |zero=>exact absurd rfl E
            |succ j=>simp[Nat.testBit_succ]))
           have kU:=I ((Z oJ).b (Z ov));have DD:=I ((Z Dx).trans (bD.below (Z ov)));have Xk:IntKind.i64.wrap (at'*64)=at'*64:=aB _ (by omega);clear nG DA kK oJ Dx ov;go_upto_region 29 with(fail);have mF:=(Z v_).rT ((Z gP).2.mono (by decide) (ζ _)) (Z gP).1;have JO:=I ((Z DD).trans ((Z gP).2.mono (by decide:∀t∈[some 4],t∈R4) (ζ _)));have ki:=(Z kU).c (Z gP).2 (by decide);have kY:(Sb.ins Q Q.length (⟨i,at',0⟩:Sl)).set Q.length {(⟨i,at',0⟩:Sl)with bm:=1}=Sb.ins Q Q.length ⟨i,at',1⟩:=mB (by omega);rw[kY]at mF;have S5:=mF.K.sl Q.length _ _ _ (Z vX) (Z vZ) (by rw[cF _ (by omega),ai (by omega),af rfl]);have lZ:=I mF;have l8:=I ki;have k1:=mF.K.c1;have k0:=S5.c0;have ka:=S5.c1;have r0:=ki.c0;have r1:=ki.c1;have f0:=ki.fz 0;have f1:=ki.fz 1;clear mF ki S5 gP v_ kU DD s3 fr JN S8 kY;generalize wr.setCell ⟨W4.heap.size,0,none⟩ (.bool true)=W5 at*;simp only at k0 ka;obtain⟨t0,t1⟩:=aW (W:=W5) r0 r1 (.int .i64 (i:Int)) (.int .i64 (at'*64));go_region
           go_wp2;refine Θ (v:=.tuple #[.agg #[.int .i64 i,.int .i64 (at'*64)],.int .i64 0]) (by simp[results,results102,go_sem,t0,t1];try rfl) rfl ?_;exact(Z yJ) Q.length _ _ _ (Z pJ) (((Z lZ).n_ ((bD.set (Z l8).tg (Γ _) 0 (.int .i64 (i:Int))).trans (bD.set ((Z l8).tg.set _ _) (Γ _) 1 (.int .i64 (at'*64)))) (by decide)).b (dw _)) (((Z JO).fresh (ζ _) 0 _).fresh (ζ _) 1 _).drew
         ·go_wp2_with fail;go_quiet (fail);have eU:True:=trivial;go_wp2_with (first
           |(at_builtin;have _t:=eU;refine Ω _ rfl (.tmp 169) (.tmp 175) 138 rfl wr.heap.size 302 i0 (.pointer none) 1 8 underlying138 (Z HI) (Z HZ) (Z eI) (Z eJ) rfl (by decide) _ 0 [] rfl (Ξ _ _ _ _) _ _ _ (dS (bs.take Q.length)) rfl (Z HT) (Z Et) (ju _) (by unfold maxLen;omega) (by omega) (ζ _) ?_;intro v5 w5 o5 g5 n5;rw[bj,aT]at o5;obtain⟨p5,d5,rfl⟩:=cM o5;have b5:Below wr.heap.size wr w5:=(iB (γ wr.heap.size wr) nq).grown g5 (ζ _) (λk D=>by cases D);have a55:=(b5.cell (p:=⟨c,2,none⟩) ld).trans e4;have B5:=I b5;have O5:=I o5;clear o5 g5 n5 b5 eU;have jg:True:=trivial)
           |(at_builtin;have _t:=jg;refine Ω _ rfl (.tmp 177) (.tmp 179) 138 rfl wr.heap.size 302 i0 (.pointer none) 1 8 underlying138 (Z HI) (Z HZ) (Z eI) (Z eJ) rfl (by decide) _ _ _ rfl ((Z O5).alloc _) ⟨w5.heap.size,0,none⟩ 1 1 [.pointer (some ⟨W4.heap.size+1,0,none⟩)] rfl rfl (rX _ _ _) (by intro u hu;simp at hu;subst hu;rfl) (by unfold maxLen;omega) (by omega) (by have:=(Z B5).size;simp;omega) ?_;intro v6 w6 o6 g6 n6;obtain⟨p6,d6,rfl⟩:=cM o6;have b6:Below wr.heap.size wr w6:=((Z B5).alloc (Z B5).size _).grown g6 (by have:=(Z B5).size;simp;omega) (bL (Z O5));have a66:=(b6.cell (p:=⟨c,2,none⟩) ld).trans e4;have B6:=I b6;have O6:=I o6;clear o6 g6 n6 b6 jg;have ou:True:=trivial)
           |(at_builtin;have _t:=ou;refine Ω _ rfl (.tmp 182) (.tmp 188) 138 rfl wr.heap.size 302 i0 (.pointer none) 1 8 underlying138 (Z HI) (Z HZ) (Z eI) (Z eJ) rfl (by decide) _ _ _ rfl (Z O6) _ 0 _ [] rfl rfl (by intro j u h;simp at h) (by intro u h;simp at h) (by unfold maxLen;omega) (by omega) (Z B6).size ?_;intro v7 w7 o7 g7 n7;rw[show Q.length+1+0=Q.length+1 by omega]at o7;obtain⟨p7,d7,rfl⟩:=cM o7;have b7:Below wr.heap.size wr w7:=(Z B6).grown g7 (Z B6).size (bL (Z O6));have a77:=(b7.cell (p:=⟨c,2,none⟩) ld).trans e4;have f77:=(b7.frozen (p:=⟨c,2,none⟩) ld).trans Q7;have O7:=I o7;have B7:=I b7;clear o7 g7 n7 b7 ou))
          have nC:=I ((Z qw) (Z pJ) _ w7 (Z B7) (by rw[Z Uu,Z hzd];exact Z O7));have kK:=I (Z nC).1;have Dx:=I (Z nC).2;have oJ:Hid (Rx (w7.setCell ⟨c,2,none⟩ (.slice p7 (Q.length+1) d7)) w.heap.size (.int .i64 0) (.int .i64 0)):=(((Z yv).b (Z hB)).b (Z B7)).c (bD.set (N:=0) ((Z kZ).b (Z B7)).K.tg (Γ _) 2 _) (by decide);have vX:Hid ((Sb.ins bs Q.length (W4.heap.size+1))[Q.length]?=some (W4.heap.size+1)):=by show _=_;rw[cF _ (by omega),ai (by omega),af rfl]
          have vZ:Hid ((Sb.ins ts Q.length W4.heap.size)[Q.length]?=some W4.heap.size):=by show _=_;rw[cF _ (by have:=(Z kZ).K.lt;omega),ai (by omega),af rfl]
          have Dy:Hid ((Sb.ins Q Q.length ⟨i,at',0⟩)[Q.length]?=some ⟨i,at',0⟩):=by show _=_;rw[cF _ (by omega),ai (by omega),af rfl]
          clear nC qw yv kZ Fz Us SR B6 O6 B5 O5 B7 O7;generalize w7.setCell ⟨c,2,none⟩ (.slice p7 (Q.length+1) d7)=W8 at*;have S8:=I ((Z kK).K.sl Q.length _ _ _ (Z vX) (Z vZ) (Z Dy));have yI:Hid (Below W8.heap.size W8 W8):=γ _ _;have su:0<m:=by
           have h5:(1:Int)<=64/sz:=dT (by have:=(Z lY).1;omega) (by have:=(Z lY).2.1;omega);have:=(Z lY).2.2;omega
          go_loopw [17] (λFy wr=>Fy=.int .i64 0/\Hid (Below W8.heap.size W8 wr)) (λ_ _=>0)
          case atStart=>exact⟨rfl,yI⟩
          case round =>
           clear yI;obtain⟨rfl,ov⟩:=hrel;have nG:=(Z S8).b (Z ov);have s3:=nG.c3;have DA:=nG.row 0 su;have fr:wr.cell? ⟨W4.heap.size,0,none⟩=some (.bool false):=by simpa using DA
           have JN:=nG.fz 0;have Pp:(0:Int)<m:=by omega
           have v_:=I ((Z kK).b (Z ov));have gP:=I ((Z v_).K.turn (Z vX) (Z vZ) (Z Dy) (k:=0) 1 true su (by decide) (λj E=>by
            rw[fx];cases j with
            |zero=>exact absurd rfl E
            |succ j=>simp[Nat.testBit_succ]))
           have kU:=I ((Z oJ).b (Z ov));have DD:=I ((Z Dx).trans (bD.below (Z ov)));have Xk:IntKind.i64.wrap (at'*64)=at'*64:=aB _ (by omega);clear nG DA kK oJ Dx ov;go_upto_region 29 with(fail);have mF:=(Z v_).rT ((Z gP).2.mono (by decide) (ζ _)) (Z gP).1;have JO:=I ((Z DD).trans ((Z gP).2.mono (by decide:∀t∈[some 4],t∈R4) (ζ _)));have ki:=(Z kU).c (Z gP).2 (by decide);have kY:(Sb.ins Q Q.length (⟨i,at',0⟩:Sl)).set Q.length {(⟨i,at',0⟩:Sl)with bm:=1}=Sb.ins Q Q.length ⟨i,at',1⟩:=mB (by omega);rw[kY]at mF;have S5:=mF.K.sl Q.length _ _ _ (Z vX) (Z vZ) (by rw[cF _ (by omega),ai (by omega),af rfl]);have lZ:=I mF;have l8:=I ki;have k1:=mF.K.c1;have k0:=S5.c0;have ka:=S5.c1;have r0:=ki.c0;have r1:=ki.c1;have f0:=ki.fz 0;have f1:=ki.fz 1;clear mF ki S5 gP v_ kU DD s3 fr JN S8 kY;generalize wr.setCell ⟨W4.heap.size,0,none⟩ (.bool true)=W5 at*;simp only at k0 ka;obtain⟨t0,t1⟩:=aW (W:=W5) r0 r1 (.int .i64 (i:Int)) (.int .i64 (at'*64));go_region
           go_wp2;refine Θ (v:=.tuple #[.agg #[.int .i64 i,.int .i64 (at'*64)],.int .i64 0]) (by simp[results,results102,go_sem,t0,t1];try rfl) rfl ?_;exact(Z yJ) Q.length _ _ _ (Z pJ) (((Z lZ).n_ ((bD.set (Z l8).tg (Γ _) 0 (.int .i64 (i:Int))).trans (bD.set ((Z l8).tg.set _ _) (Γ _) 1 (.int .i64 (at'*64)))) (by decide)).b (dw _)) (((Z JO).fresh (ζ _) 0 _).fresh (ζ _) 1 _).drew
 ·rw[show decide (0<=x/\x<k)=false by simpa using hx];have hPE:=I ((Z zz).n_ ((bD.set (Z jS).tg (Γ _) 0 (.int .i64 0)).trans (bD.set ((Z jS).tg.set _ _) (Γ _) 1 (.int .i64 0))) (by decide));have hCE:=I (((bD.below (Z eA):bD R4 N0 w w1).fresh (ζ _) 0 (.int .i64 0)).fresh (ζ _) 1 (.int .i64 0));obtain⟨t0,t1⟩:=aW (Z jS).c0 (Z jS).c1 (.int .i64 0) (.int .i64 0);have r0:=(Z jS).c0;have r1:=(Z jS).c1;have f0:=(Z jS).fz 0;have f1:=(Z jS).fz 1;clear RO RW eA zz jS e21 c01;go_wp2_with fail;refine Θ (v:=.tuple #[.agg #[.int .i64 0,.int .i64 0],.int .i64 2]) (by simp[results,results102,go_sem,t0,t1];try rfl) rfl ?_;exact(Z RN) 2 _ (Z hPE) (Z hCE) (ε ⟨rfl,hx⟩)
end Sb
end Go.Proofs.YtcbmfakjfoggaaaGreatDoor
