/- H34 -/
import Derived.Test.YtcbmfakjfoggaaaGreatDoorA0
import Derived.Test.YtcbmfakjfoggaaaGreatDoorH33
set_option maxHeartbeats 0
set_option maxRecDepth 100000
namespace Go.Proofs.YtcbmfakjfoggaaaGreatDoor
open _root_.Go.Proofs.Tryz Go.RowKit Go.Maps
namespace Pl
open Fr Bd Zn Dz Sb Mg
theorem zi:(prog.info? 167).map (λi=>(i.zero,i.size,i.bytes))=some (some (.agg #[.int .i64 0,.int .i64 0,.int .i64 0]),3,24):=by kernel_rfl
theorem zk {w:World}{B B' e size n:Nat}{v:Value}{xs:List Value}(h:w.ownsRow B e size v n xs)(J:B'<=B):w.ownsRow B' e size v n xs:=by
 refine⟨h.1,?_⟩;rcases h.2 with e1|⟨g',cap,cur,e1,hg,hh,G,O,h3,h4⟩
 ·exact ε e1
 ·exact δ ⟨g',cap,cur,e1,σ J hg,hh,G,O,h3,h4⟩
theorem oy (ab6:List (Nat×Bl)):∀u∈fB ab6,u.oneCell'=true:=λu hu=>by
 obtain⟨x,_,hx⟩:=eE.1 hu;simp only[ae,aR,dg]at hx;rcases hx with rfl|rfl|rfl<;>rfl
section
variable {B:Nat}{w w':World}{Y rd:Nat}{R:Rs}
theorem se (h:jW B w Y rd R)(hB:B<=w.heap.size)(hs:R.ab6.length<1000000)(hsT:R.T.length<1000000){ab9 M:List (Nat×Bl)}{tt:Nat}{o:Bl}(hY:R.ab6=ab9++(tt,o)::M)(hK:∀p∈ab9,(p.1:Int)≠tt):
  Calls prog 94 #[.pointer (some ⟨Y,0,none⟩),.int .i64 tt] w λev w'=>ev=.returned (.tuple #[bz o.1 o.2,.bool true])/\∃lq ie,jW B w' Y rd {R with ab6:=ab9++M,T:=R.T++[o],vY:=lq,vT:=ie}/\Kp (λb=>b=Y\/OB R.vT b) w w'/\(∀j,OB ie j->OB R.vT j\/w.heap.size<=j)/\∀j,OB lq j->w.heap.size<=j:=by
 have F1:=χ (γ w.heap.size w) (cB 0 0);have R1:=cQ w;have H1:=h.b F1;have hlen:R.ab6.length=ab9.length+(M.length+1):=by rw[hY];simp
 obtain⟨b,c,hv,_⟩:=H1.y.form (by omega);have c5:=H1.c5;have hr:=H1.y;rw[hv]at c5 hr;rw[hlen]at c5 hr;have gB:=om hr;have hbl:=(hr.lt b rfl).2;have sD:(fB R.ab6).length=(ab9.length+(M.length+1))*3:=by rw[l9,hlen]
 have K:∀j,j<(fB R.ab6).length->(w.alloc (cB 0 0)).cell? ⟨b,j,none⟩=(fB R.ab6)[j]?:=λj E=>hr.cellAt j (by omega);have Kc:=l9 ab9;have Ql:=l9 M;have Tm:fB R.ab6=fB ab9++([.int .i64 (tt:Int),.int .i64 o.1,.int .i64 o.2]++fB M):=by rw[hY,jK];rfl
 have hKc:∀j u,(fB ab9)[j]?=some u->(w.alloc (cB 0 0)).cell? ((⟨b,0,none⟩:Addr).add j)=some u:=λj u hu=>by
  have E:=(ν.1 hu).1;rw[Bd.eZ,bj,K j (by omega),<- hu,Tm,ar E]
 have hMc:∀j u,(fB M)[j]?=some u->(w.alloc (cB 0 0)).cell? ((⟨b,(ab9.length+1)*3,none⟩:Addr).add j)=some u:=λj u hu=>by
  have E:=(ν.1 hu).1;rw[Bd.eZ,K ((ab9.length+1)*3+j) (by omega),<- hu,Tm,<- aJ,aq (by simp;omega)];congr 1;simp;omega
 have y0:=(K (ab9.length*3) (by omega));have y1:=(K (ab9.length*3+1) (by omega));have y2:=(K (ab9.length*3+2) (by omega));rw[Tm,aq (by omega),Kc,Nat.sub_self]at y0;rw[Tm,aq (by omega),Kc,show ab9.length*3+1-ab9.length*3=1 from by omega]at y1;rw[Tm,aq (by omega),Kc,show ab9.length*3+2-ab9.length*3=2 from by omega]at y2;simp only[cJ,υ,ω]at y0 y1 y2;have Tn:Hid (∀k,k<ab9.length->∃x:Nat,(x:Int)≠(tt:Int)/\(w.alloc (cB 0 0)).cell? ⟨b,k*3,none⟩=some (.int .i64 (x:Int))):=λk D=>by
  have O:=K (3*k) (by omega);rw[Tm,ar (by omega),(r_ ab9 k D).1]at O;rw[dZ k 3];exact⟨_,hK _ (aO D),O⟩
 have cZ:=I F1;have fk:=I R1;have dD:=I H1;have Bq:=I hK;have HKC:=I hKc;have Ur:=I hMc;have HLK:=I Kc;have GG:=I Ql;have ZH:=I y0;have Cq:=I y1;have KL:=I y2;have hKM:ab9.length+(M.length+1)<1000000:=by omega
 have wS:Hid (∀j,OB R.vT j->j<w.heap.size):=λj E=>(ay h.t E).1.lt;have N7:Hid (∀j,OB R.vR j->j<w.heap.size):=λj E=>(ay h.r E).1.lt;have abV:w.heap.size<(w.alloc (cB 0 0)).heap.size:=by simp
 obtain⟨oN,oA⟩:=o;clear h F1 R1 H1 hr K hKc hMc Kc Ql y0 y1 y2 Tm sD hlen hs hK hv;generalize jG:ab9.length=kk at*;generalize f_:M.length=mm at*;unfold bz;simp only at*;go_enter func94,ntmps94;go_upto_region 2 with(fail);generalize w.alloc (cB 0 0)=W at*;go_loopw [6] (λs wr=>∃k:Nat,s=.int .i64 k/\k<=kk/\Hid (wr=W)) (λs _=>kk-(intOf s).toNat)
 case atStart=>exact⟨0,rfl,Γ _,rfl⟩
 case round =>
  obtain⟨k,rfl,D,hw⟩:=hrel;obtain rfl:wr=W:=hw;have EZ:(0:Int)<=k:=by omega
  have Il:((kk+(mm+1):Nat):Int)=(kk:Int)+((mm:Int)+1):=by omega
  have XP:(k:Int)<((kk+(mm+1):Nat):Int):=by omega
  have abW:(k:Int)<(kk:Int)+((mm:Int)+1):=by omega
  have Qg:IntKind.i64.wrap ((k:Int)+1)=(k:Int)+1:=aB _ (by omega);by_cases vh:k<kk
  ·obtain⟨x,hne,x0⟩:=(Z Tn) k vh;have d1:decide ((x:Int)=(tt:Int))=false:=by simpa using hne
   go_wp2_with fail;go_roundw;case rel=>exact⟨k+1,by go_num,by omega,trivial⟩
   case measure=>simp[intOf];omega
  ·obtain rfl:k=kk:=by omega
   have y0:=Z ZH;have y1:=Z Cq;have y2:=Z KL;have F2:=χ (γ wr.heap.size wr) (cB oN oA);have H2:=(Z dD).b F2;have q':=θ wr #[.int .i64 oN,.int .i64 oA] 34;have q0:=q' 0;have q1:=q' 1;simp only[Δ,υ,ω]at q0 q1;have T9:=bB wr #[.int .i64 oN,.int .i64 oA] 34;have Yd:Hid (∀j u,(fB ab9)[j]?=some u->(wr.alloc (cB oN oA)).cell? ((⟨b,0,none⟩:Addr).add j)=some u):=λj u hu=>(F2.cell (p:=(⟨b,0,none⟩:Addr).add j) (by rw[Bd.eZ];exact hbl)).trans ((Z HKC) j u hu);have Tp:Hid (∀j u,(fB M)[j]?=some u->(wr.alloc (cB oN oA)).cell? ((⟨b,(k+1)*3,none⟩:Addr).add j)=some u):=λj u hu=>(F2.cell (p:=(⟨b,(k+1)*3,none⟩:Addr).add j) (by rw[Bd.eZ];exact hbl)).trans ((Z Ur) j u hu);have rk:b<(wr.alloc (cB oN oA)).heap.size:=ι hbl F2.size;have d5:=H2.c5;have e5:=(F2.cell (p:=⟨Y,5,none⟩) (Z dD).tg.lt).trans c5;have f5:=H2.fz 5;have sV:=H2.tg.lt;have eA:=I (bW (Z cZ) F2);have jS:=I ((Z fk).b F2);have iu:=I H2;have Ld:=I q0;have XO:=I q1;have DU:=I T9;clear q' q0 q1 T9 F2 H2 d5;go_upto_region 7 with(fail);generalize wr.alloc (cB oN oA)=W2 at*;have KW:wr.heap.size<W2.heap.size:=(Z DU).lt;generalize wr.heap.size=b9 at*;obtain⟨i0,eO,hz0,hz1,hz2⟩:=aY zi;have HI:=I eO;have HZ:=I hz0;have eI:=I hz1;have eJ:=I hz2;clear eO hz0 hz1 hz2 c5 y0 y1 y2 ZH Cq KL;have ze:=I (Ξ W2 W2.heap.size 167 3);by_cases hc1:c=k+1
   ·obtain rfl:mm=0:=by omega
    subst hc1;have hM0:M=[]:=bf.1 f_;go_wp2_with (first|(at_builtin;refine Ω _ rfl (.tmp 37) (.tmp 43) 62 rfl W2.heap.size 167 i0 (.agg #[.int .i64 0,.int .i64 0,.int .i64 0]) 3 24 underlying62 (Z HI) (Z HZ) (Z eI) (Z eJ) rfl (by decide) (.slice none 0 0) 0 [] rfl (Z ze) ⟨b,0,none⟩ k _ (fB ab9) rfl (by have:=Z HLK;omega) (Z Yd) (oy ab9) (by unfold maxLen;omega) (by omega) (ζ _) ?_;intro v1 w3 o1 g1 _;have b1:Below W2.heap.size W2 w3:=gm g1;have z5:=(b1.cell (p:=⟨Y,5,none⟩) sV).trans e5;have Rk:=(b1.frozen (p:=⟨Y,5,none⟩) sV).trans f5)|(at_builtin;refine Ω _ rfl (.tmp 46) (.tmp 53) 62 rfl W2.heap.size 167 i0 (.agg #[.int .i64 0,.int .i64 0,.int .i64 0]) 3 24 underlying62 (Z HI) (Z HZ) (Z eI) (Z eJ) rfl (by decide) v1 (0+k) (([]:List Value)++fB ab9) rfl o1 _ _ _ (fB M) rfl (by have:=Z GG;omega) (λj u hu=>by rw[hM0]at hu;simp[fB]at hu) (oy M) (by unfold maxLen;omega) (by omega) b1.size ?_;intro v2 w4 o2 g2 _;have b2:Below W2.heap.size W2 w4:=⟨g2.os.trans b1.os,g2.tape.trans b1.tape,g2.output.trans b1.output,σ b1.size g2.size,λi hi=>(g2.block i (ι hi b1.size) (λe=>by have:=(ay o1 (b:=i) e.symm).2;omega)).trans (b1.block i hi)⟩;have u5:=(b2.cell (p:=⟨Y,5,none⟩) sV).trans e5;have uf5:=(b2.frozen (p:=⟨Y,5,none⟩) sV).trans f5;obtain⟨p2,c2,rfl⟩:=aX o2));have HGY:Hid (∀j,OB (.slice p2 k c2) j->w.heap.size<=j):=λj E=>σ (Z eA).size (ay o2 (b:=j) (by rw[show 0+k+0=k from by omega];exact E)).2;have ry:w4.ownsRow B 167 3 (.slice p2 k c2) (ab9++M).length (fB (ab9++M)):=by
     have h9:=zk (B':=B) o2 (σ hB (Z eA).size);rw[φ,jK,jG,f_];simpa using h9
    have Ki:∀j,j=Y\/OB R.vR j\/OB R.vT j\/OB R.vL j->w4.heap[j]?=W2.heap[j]?:=λj E=>b2.block j ((Z iu).lt (b:=j) (by
     rcases E with h|h|h|h
     ·exact ε h
     ·exact δ (ε h)
     ·exact δ (δ (ε h))
     ·exact δ (δ (δ (ε h))))).1
    have M5:=(Z iu).AZ Ki ry;have K5:Kp (λj=>j=Y\/OB R.vT j) w (w4.setCell ⟨Y,5,none⟩ (.slice p2 k c2)):=((Kp.below (Z eA)).trans (Kp.below b2)).trans (Kp.set w4 Y 5 _ (ε rfl));have wB:Y≠b9:=(Z iu).tg.ne (Z DU) (by decide);have Tq:Y≠w.heap.size:=(Z iu).tg.ne (Z jS).tg (by decide);have x0:(w4.setCell ⟨Y,5,none⟩ (.slice p2 k c2)).cell? ⟨b9,0,none⟩=some (.int .i64 oN):=(η (a:=⟨b9,0,none⟩) (μ _ _ _ _ (λe=>wB e.symm))).trans ((b2.cell (p:=⟨b9,0,none⟩) KW).trans (Z Ld));have x1:(w4.setCell ⟨Y,5,none⟩ (.slice p2 k c2)).cell? ⟨b9,1,none⟩=some (.int .i64 oA):=(η (a:=⟨b9,1,none⟩) (μ _ _ _ _ (λe=>wB e.symm))).trans ((b2.cell (p:=⟨b9,1,none⟩) KW).trans (Z XO));have mU:=I (((Z jS).b b2).blk (w':=w4.setCell ⟨Y,5,none⟩ (.slice p2 k c2)) (μ _ _ _ _ (λe=>Tq e.symm)));have Kj:=I (((Z DU).b b2).set ⟨Y,5,none⟩ (.slice p2 k c2));have MT:=I M5;have AW:=I K5;have c3:=M5.c3;have f3:=M5.fz 3;have r3:=M5.t;have T5:=M5.tg;obtain⟨pT,cT,pM⟩:=aX r3;have qx:=I pM;rw[pM]at c3 r3;generalize Tl:R.T.length=nT at*;simp only at c3 r3;clear o1 g1 b1 z5 Rk o2 g2 b2 u5 uf5 ry Ki M5 K5 pM;generalize w4.setCell ⟨Y,5,none⟩ (.slice p2 k c2)=W5 at*;have BA:Below W5.heap.size W5 (W5.alloc (cB oN oA)).drew:=(χ (γ _ _) _).drew;have iE:=aN r3 BA;have ir:=T5.b BA;have hNb:B<=(W5.alloc (cB oN oA)).drew.heap.size:=σ (σ (Z MT).ge (ck T5.lt)) BA.size;have j9:=(BA.cell (p:=⟨Y,3,none⟩) T5.lt).trans c3;have j_:=(BA.frozen (p:=⟨Y,3,none⟩) T5.lt).trans f3;go_region_law (refine lT rfl (.tmp 60) (.tmp 62) rfl B (.slice pT nT cT) nT (flat R.T) (by simp[Act.eval]) iE (by simp[Act.eval]) (by omega) hNb ?_;intro g4 c4 w6 o6 q6 hg4 kE;have e6:=q6.block Y ir.lt (d_ iE ir (by decide));have ID:w6.cell? ⟨Y,3,none⟩=some (.slice pT nT cT):=(η (a:=⟨Y,3,none⟩) e6).trans j9;have Di:w6.frozen? ⟨Y,3,none⟩=false:=(π (a:=⟨Y,3,none⟩) e6).trans j_);all_goals
     have sO:∀j,some j=(Value.slice pT nT cT).ownBlock->OB R.vT j:=λj e=>by
      show R.vT.ownBlock=some j;rw[Z qx];exact e.symm
     have hM:=Z MT;have xU:∀j,j=Y\/OB R.vR j\/OB R.vL j\/OB (.slice p2 k c2) j->w6.heap[j]?=W5.heap[j]?:=λj E=>by
      have hlt:=(hM.lt (b:=j) (by
       rcases E with h|h|h|h
       ·exact ε h
       ·exact δ (ε h)
       ·exact δ (δ (δ (ε h)))
       ·exact δ (δ (δ (δ h))))).1
      refine(q6.block j (ι hlt BA.size) (λe=>?_)).trans (BA.block j hlt);have ht:=(ay r3 (b:=j) e.symm).1;rcases E with h|h|h|h
      ·exact ht.ne T5 (by decide) h
      ·exact hM.dj j h (sO j e)
      ·exact ht.ne (ay hM.l h).1 (by decide) rfl
      ·exact ht.ne (ay hM.y h).1 (by decide) rfl
     have J0:w6.ownsRow B 34 2 (.slice (some ⟨g4,0,none⟩) (nT+1) c4) (R.T++[(oN,oA)]).length (flat (R.T++[(oN,oA)])):=by
      rw[φ,Tl,bM];exact o6
     have hd:∀j,OB R.vR j->¬OB (.slice (some ⟨g4,0,none⟩) (nT+1) c4) j:=λj hR E=>by
      obtain rfl:g4=j:=by simpa[OB,Value.ownBlock]using E
      rcases hg4 with h|h
      ·exact hM.dj g4 hR (sO g4 h.symm)
      ·have G:=(ay hM.r hR).1.lt;have O:=BA.size;omega
     have N8:=I (hM.NS xU J0 hd);have K7:Kp (λj=>j=Y\/OB R.vT j) (W5.alloc (cB oN oA)).drew w6:=⟨q6.os,q6.tape,q6.output,q6.size,λi hi hn=>q6.block i hi (λe=>hn (δ (sO i e)))⟩;have HK7:=I ((((Z AW).trans (Kp.below BA)).trans K7).trans (Kp.set w6 Y 3 (.slice (some ⟨g4,0,none⟩) (nT+1) c4) (ε rfl)));have Kk:=(Z Kj).lt;have Kl:=(Z mU).tg.lt;have uJ:w6.heap[b9]?=W5.heap[b9]?:=(q6.block b9 (ι Kk BA.size) (λe=>by have:=(Z wS) b9 (sO b9 e);omega)).trans (BA.block b9 Kk);have Ye:w6.heap[w.heap.size]?=W5.heap[w.heap.size]?:=(q6.block w.heap.size (ι Kl BA.size) (λe=>by have:=(Z wS) w.heap.size (sO _ e);omega)).trans (BA.block _ Kl);have z0:(w6.setCell ⟨Y,3,none⟩ (.slice (some ⟨g4,0,none⟩) (nT+1) c4)).cell? ⟨b9,0,none⟩=some (.int .i64 oN):=(η (a:=⟨b9,0,none⟩) (μ _ _ _ _ (λe=>wB e.symm))).trans ((η (a:=⟨b9,0,none⟩) uJ).trans x0);have z1:(w6.setCell ⟨Y,3,none⟩ (.slice (some ⟨g4,0,none⟩) (nT+1) c4)).cell? ⟨b9,1,none⟩=some (.int .i64 oA):=(η (a:=⟨b9,1,none⟩) (μ _ _ _ _ (λe=>wB e.symm))).trans ((η (a:=⟨b9,1,none⟩) uJ).trans x1);have nH:=I (((Z mU).blk Ye).blk (w':=w6.setCell ⟨Y,3,none⟩ (.slice (some ⟨g4,0,none⟩) (nT+1) c4)) (μ _ _ _ _ (λe=>Tq e.symm)));have HG:Hid (∀j,OB (.slice (some ⟨g4,0,none⟩) (nT+1) c4) j->OB R.vT j\/w.heap.size<=j):=λj E=>by
      obtain rfl:g4=j:=by simpa[OB,Value.ownBlock]using E
      rcases hg4 with h|h
      ·exact ε (sO g4 h.symm)
      ·have G:=(Z AW).size;have O:=BA.size;exact δ (by omega)
     have Gm:Hid (∀j,OB (.slice (some ⟨g4,0,none⟩) (nT+1) c4) j->j≠w.heap.size):=λj E=>by
      obtain rfl:g4=j:=by simpa[OB,Value.ownBlock]using E
      rcases hg4 with h|h
      ·have:=(Z wS) g4 (sO g4 h.symm);omega
      ·have O:=BA.size;omega
     have Tr:=(Z N8).tg;clear sO hM xU J0 hd K7 uJ Ye o6 q6 hg4 kE e6 j9 j_ iE BA ir hNb x0 x1 MT AW mU Kj c3 f3 r3;clear hM0 f_ GG Tp Ur hY;go_upto_region 11 with(fail);generalize w6.setCell ⟨Y,3,none⟩ (.slice (some ⟨g4,0,none⟩) (nT+1) c4)=W7 at*;obtain⟨r0,r1,bQ,rt⟩:=Z nH;have f0:=bQ 0;have f1:=bQ 1;obtain⟨t0,t1⟩:=aW r0 r1 (.int .i64 oN) (.int .i64 oA);have gP:=I rt;clear bQ Tr;go_wp2;refine Θ (v:=.tuple #[.agg #[.int .i64 oN,.int .i64 oA],.bool true]) (by simp[results,results94,go_sem,t0,t1];try rfl) rfl ?_;refine⟨rfl,_,_,(Z N8).keep (λj E=>?_),Kp.sI (Z HK7) (ζ _) _ _,Z HG,Z HGY⟩;have Yf:j≠w.heap.size:=by
      rcases E with h|h|h|h|h
      ·exact λe=>Tq (h.symm.trans e)
      ·have:=(Z N7) j h;omega
      ·exact(Z Gm) j h
      ·exact λe=>(ay (Z N8).l h).1.ne (Z gP) (by decide) e
      ·exact λe=>(ay (Z N8).y h).1.ne (Z gP) (by decide) e
     exact(μ _ _ _ _ Yf).trans (μ _ _ _ _ Yf)
   ·go_wp2_with (first|(at_builtin;refine Ω _ rfl (.tmp 37) (.tmp 43) 62 rfl W2.heap.size 167 i0 (.agg #[.int .i64 0,.int .i64 0,.int .i64 0]) 3 24 underlying62 (Z HI) (Z HZ) (Z eI) (Z eJ) rfl (by decide) (.slice none 0 0) 0 [] rfl (Z ze) ⟨b,0,none⟩ k _ (fB ab9) rfl (by have:=Z HLK;omega) (Z Yd) (oy ab9) (by unfold maxLen;omega) (by omega) (ζ _) ?_;intro v1 w3 o1 g1 _;have b1:Below W2.heap.size W2 w3:=gm g1;have z5:=(b1.cell (p:=⟨Y,5,none⟩) sV).trans e5;have Rk:=(b1.frozen (p:=⟨Y,5,none⟩) sV).trans f5)|(at_builtin;refine Ω _ rfl (.tmp 46) (.tmp 53) 62 rfl W2.heap.size 167 i0 (.agg #[.int .i64 0,.int .i64 0,.int .i64 0]) 3 24 underlying62 (Z HI) (Z HZ) (Z eI) (Z eJ) rfl (by decide) v1 (0+k) (([]:List Value)++fB ab9) rfl o1 _ _ _ (fB M) rfl (by have:=Z GG;omega) (λj u hu=>((b1.cell (p:=(⟨b,(k+1)*3,none⟩:Addr).add j) (by rw[Bd.eZ];exact rk)).trans ((Z Tp) j u hu))) (oy M) (by unfold maxLen;omega) (by omega) b1.size ?_;intro v2 w4 o2 g2 _;have b2:Below W2.heap.size W2 w4:=⟨g2.os.trans b1.os,g2.tape.trans b1.tape,g2.output.trans b1.output,σ b1.size g2.size,λi hi=>(g2.block i (ι hi b1.size) (λe=>by have:=(ay o1 (b:=i) e.symm).2;omega)).trans (b1.block i hi)⟩;have u5:=(b2.cell (p:=⟨Y,5,none⟩) sV).trans e5;have uf5:=(b2.frozen (p:=⟨Y,5,none⟩) sV).trans f5;obtain⟨p2,c2,rfl⟩:=aX o2));generalize Gj:k+(k+(mm+1)-(k+1))=n2 at*;have e0:n2=k+mm:=by omega
    rw[show 0+k+(k+(mm+1)-(k+1))=n2 from by omega]at o2;have HGY:Hid (∀j,OB (.slice p2 n2 c2) j->w.heap.size<=j):=λj E=>σ (Z eA).size (ay o2 (b:=j) E).2;have ry:w4.ownsRow B 167 3 (.slice p2 n2 c2) (ab9++M).length (fB (ab9++M)):=by
     have h9:=zk (B':=B) o2 (σ hB (Z eA).size);rw[φ,jK,jG,f_,<- e0];simpa using h9
    have Ki:∀j,j=Y\/OB R.vR j\/OB R.vT j\/OB R.vL j->w4.heap[j]?=W2.heap[j]?:=λj E=>b2.block j ((Z iu).lt (b:=j) (by
     rcases E with h|h|h|h
     ·exact ε h
     ·exact δ (ε h)
     ·exact δ (δ (ε h))
     ·exact δ (δ (δ (ε h))))).1
    have M5:=(Z iu).AZ Ki ry;have K5:Kp (λj=>j=Y\/OB R.vT j) w (w4.setCell ⟨Y,5,none⟩ (.slice p2 n2 c2)):=((Kp.below (Z eA)).trans (Kp.below b2)).trans (Kp.set w4 Y 5 _ (ε rfl));have wB:Y≠b9:=(Z iu).tg.ne (Z DU) (by decide);have Tq:Y≠w.heap.size:=(Z iu).tg.ne (Z jS).tg (by decide);have x0:(w4.setCell ⟨Y,5,none⟩ (.slice p2 n2 c2)).cell? ⟨b9,0,none⟩=some (.int .i64 oN):=(η (a:=⟨b9,0,none⟩) (μ _ _ _ _ (λe=>wB e.symm))).trans ((b2.cell (p:=⟨b9,0,none⟩) KW).trans (Z Ld));have x1:(w4.setCell ⟨Y,5,none⟩ (.slice p2 n2 c2)).cell? ⟨b9,1,none⟩=some (.int .i64 oA):=(η (a:=⟨b9,1,none⟩) (μ _ _ _ _ (λe=>wB e.symm))).trans ((b2.cell (p:=⟨b9,1,none⟩) KW).trans (Z XO));have mU:=I (((Z jS).b b2).blk (w':=w4.setCell ⟨Y,5,none⟩ (.slice p2 n2 c2)) (μ _ _ _ _ (λe=>Tq e.symm)));have Kj:=I (((Z DU).b b2).set ⟨Y,5,none⟩ (.slice p2 n2 c2));have MT:=I M5;have AW:=I K5;have c3:=M5.c3;have f3:=M5.fz 3;have r3:=M5.t;have T5:=M5.tg;obtain⟨pT,cT,pM⟩:=aX r3;have qx:=I pM;rw[pM]at c3 r3;generalize Tl:R.T.length=nT at*;simp only at c3 r3;clear o1 g1 b1 z5 Rk o2 g2 b2 u5 uf5 ry Ki M5 K5 pM;generalize w4.setCell ⟨Y,5,none⟩ (.slice p2 n2 c2)=W5 at*;have BA:Below W5.heap.size W5 (W5.alloc (cB oN oA)).drew:=(χ (γ _ _) _).drew;have iE:=aN r3 BA;have ir:=T5.b BA;have hNb:B<=(W5.alloc (cB oN oA)).drew.heap.size:=σ (σ (Z MT).ge (ck T5.lt)) BA.size;have j9:=(BA.cell (p:=⟨Y,3,none⟩) T5.lt).trans c3;have j_:=(BA.frozen (p:=⟨Y,3,none⟩) T5.lt).trans f3;go_region_law (refine lT rfl (.tmp 60) (.tmp 62) rfl B (.slice pT nT cT) nT (flat R.T) (by simp[Act.eval]) iE (by simp[Act.eval]) (by omega) hNb ?_;intro g4 c4 w6 o6 q6 hg4 kE;have e6:=q6.block Y ir.lt (d_ iE ir (by decide));have ID:w6.cell? ⟨Y,3,none⟩=some (.slice pT nT cT):=(η (a:=⟨Y,3,none⟩) e6).trans j9;have Di:w6.frozen? ⟨Y,3,none⟩=false:=(π (a:=⟨Y,3,none⟩) e6).trans j_);all_goals
     have sO:∀j,some j=(Value.slice pT nT cT).ownBlock->OB R.vT j:=λj e=>by
      show R.vT.ownBlock=some j;rw[Z qx];exact e.symm
     have hM:=Z MT;have xU:∀j,j=Y\/OB R.vR j\/OB R.vL j\/OB (.slice p2 n2 c2) j->w6.heap[j]?=W5.heap[j]?:=λj E=>by
      have hlt:=(hM.lt (b:=j) (by
       rcases E with h|h|h|h
       ·exact ε h
       ·exact δ (ε h)
       ·exact δ (δ (δ (ε h)))
       ·exact δ (δ (δ (δ h))))).1
      refine(q6.block j (ι hlt BA.size) (λe=>?_)).trans (BA.block j hlt);have ht:=(ay r3 (b:=j) e.symm).1;rcases E with h|h|h|h
      ·exact ht.ne T5 (by decide) h
      ·exact hM.dj j h (sO j e)
      ·exact ht.ne (ay hM.l h).1 (by decide) rfl
      ·exact ht.ne (ay hM.y h).1 (by decide) rfl
     have J0:w6.ownsRow B 34 2 (.slice (some ⟨g4,0,none⟩) (nT+1) c4) (R.T++[(oN,oA)]).length (flat (R.T++[(oN,oA)])):=by
      rw[φ,Tl,bM];exact o6
     have hd:∀j,OB R.vR j->¬OB (.slice (some ⟨g4,0,none⟩) (nT+1) c4) j:=λj hR E=>by
      obtain rfl:g4=j:=by simpa[OB,Value.ownBlock]using E
      rcases hg4 with h|h
      ·exact hM.dj g4 hR (sO g4 h.symm)
      ·have G:=(ay hM.r hR).1.lt;have O:=BA.size;omega
     have N8:=I (hM.NS xU J0 hd);have K7:Kp (λj=>j=Y\/OB R.vT j) (W5.alloc (cB oN oA)).drew w6:=⟨q6.os,q6.tape,q6.output,q6.size,λi hi hn=>q6.block i hi (λe=>hn (δ (sO i e)))⟩;have HK7:=I ((((Z AW).trans (Kp.below BA)).trans K7).trans (Kp.set w6 Y 3 (.slice (some ⟨g4,0,none⟩) (nT+1) c4) (ε rfl)));have Kk:=(Z Kj).lt;have Kl:=(Z mU).tg.lt;have uJ:w6.heap[b9]?=W5.heap[b9]?:=(q6.block b9 (ι Kk BA.size) (λe=>by have:=(Z wS) b9 (sO b9 e);omega)).trans (BA.block b9 Kk);have Ye:w6.heap[w.heap.size]?=W5.heap[w.heap.size]?:=(q6.block w.heap.size (ι Kl BA.size) (λe=>by have:=(Z wS) w.heap.size (sO _ e);omega)).trans (BA.block _ Kl);have z0:(w6.setCell ⟨Y,3,none⟩ (.slice (some ⟨g4,0,none⟩) (nT+1) c4)).cell? ⟨b9,0,none⟩=some (.int .i64 oN):=(η (a:=⟨b9,0,none⟩) (μ _ _ _ _ (λe=>wB e.symm))).trans ((η (a:=⟨b9,0,none⟩) uJ).trans x0);have z1:(w6.setCell ⟨Y,3,none⟩ (.slice (some ⟨g4,0,none⟩) (nT+1) c4)).cell? ⟨b9,1,none⟩=some (.int .i64 oA):=(η (a:=⟨b9,1,none⟩) (μ _ _ _ _ (λe=>wB e.symm))).trans ((η (a:=⟨b9,1,none⟩) uJ).trans x1);have nH:=I (((Z mU).blk Ye).blk (w':=w6.setCell ⟨Y,3,none⟩ (.slice (some ⟨g4,0,none⟩) (nT+1) c4)) (μ _ _ _ _ (λe=>Tq e.symm)));have HG:Hid (∀j,OB (.slice (some ⟨g4,0,none⟩) (nT+1) c4) j->OB R.vT j\/w.heap.size<=j):=λj E=>by
      obtain rfl:g4=j:=by simpa[OB,Value.ownBlock]using E
      rcases hg4 with h|h
      ·exact ε (sO g4 h.symm)
      ·have G:=(Z AW).size;have O:=BA.size;exact δ (by omega)
     have Gm:Hid (∀j,OB (.slice (some ⟨g4,0,none⟩) (nT+1) c4) j->j≠w.heap.size):=λj E=>by
      obtain rfl:g4=j:=by simpa[OB,Value.ownBlock]using E
      rcases hg4 with h|h
      ·have:=(Z wS) g4 (sO g4 h.symm);omega
      ·have O:=BA.size;omega
     have Tr:=(Z N8).tg;clear sO hM xU J0 hd K7 uJ Ye o6 q6 hg4 kE e6 j9 j_ iE BA ir hNb x0 x1 MT AW mU Kj c3 f3 r3;clear f_ GG Tp Ur hY;go_upto_region 11 with(fail);generalize w6.setCell ⟨Y,3,none⟩ (.slice (some ⟨g4,0,none⟩) (nT+1) c4)=W7 at*;obtain⟨r0,r1,bQ,rt⟩:=Z nH;have f0:=bQ 0;have f1:=bQ 1;obtain⟨t0,t1⟩:=aW r0 r1 (.int .i64 oN) (.int .i64 oA);have gP:=I rt;clear bQ Tr;go_wp2;refine Θ (v:=.tuple #[.agg #[.int .i64 oN,.int .i64 oA],.bool true]) (by simp[results,results94,go_sem,t0,t1];try rfl) rfl ?_;refine⟨rfl,_,_,(Z N8).keep (λj E=>?_),Kp.sI (Z HK7) (ζ _) _ _,Z HG,Z HGY⟩;have Yf:j≠w.heap.size:=by
      rcases E with h|h|h|h|h
      ·exact λe=>Tq (h.symm.trans e)
      ·have:=(Z N7) j h;omega
      ·exact(Z Gm) j h
      ·exact λe=>(ay (Z N8).l h).1.ne (Z gP) (by decide) e
      ·exact λe=>(ay (Z N8).y h).1.ne (Z gP) (by decide) e
     exact(μ _ _ _ _ Yf).trans (μ _ _ _ _ Yf)
end
end Pl
end Go.Proofs.YtcbmfakjfoggaaaGreatDoor
