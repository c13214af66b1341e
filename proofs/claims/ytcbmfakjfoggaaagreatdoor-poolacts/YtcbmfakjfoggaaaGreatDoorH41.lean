/- H41 -/
import Derived.Test.YtcbmfakjfoggaaaGreatDoorA0
import Derived.Test.YtcbmfakjfoggaaaGreatDoorH40
set_option maxHeartbeats 0
set_option maxRecDepth 100000
namespace Go.Proofs.YtcbmfakjfoggaaaGreatDoor
open _root_.Go.Proofs.Tryz Go.RowKit Go.Maps
namespace Pl
open Fr Bd Zn Dz Sb Mg Rd
theorem pacts_ok (N mn sz rv:Int)(lp:Option Addr)(ln lc:Nat)(A:Nat->PA)(w:World)(e:Nat->Addr)(he:dM w e)(hw:11<w.heap.size)(hz:Qr w lp ln A)(hwf:∀i,i<ln->(Lit.int .i64 (A i).n).wf=true/\W2 (A i).ox (A i).oa)(hmx:mn<=9223372036854775807):
  Calls prog 4 #[.int .i64 N,.int .i64 mn,.int .i64 sz,.int .i64 rv,.slice lp ln lc] w λev w'=>ev=.returned (.bool true)/\Below w.heap.size w w':=by
 have HPO:=I (Gg w e he hw);have HE:=I he;have ZT:=I hz;have ZR:=I hwf;have HEW:=I he;clear he hz hwf;go_enter func4,ntmps4;go_wp2_with fail;refine(Z HPO).mono ?_;rintro ev w0⟨rfl,b0⟩;have Oi:=I ((Z HE).below b0);have UB:=I (yL N mn sz 2 w0 e (Z Oi) hmx);have hw0:11<w0.heap.size:=ι hw b0.size;have Tj:=I b0;clear HPO b0 HE;go_wp2_with fail;refine(Z UB).mono ?_;rintro ev w1 G;rcases G with⟨_,rfl,b1⟩|⟨hg,C,M,S,rfl,hD,hQ⟩
 ·have B1:=I (bW (Z Tj) b1);clear UB b1;go_wp2;go_ret;exact⟨rfl,Z B1⟩
 have Dp:=I hD.hw;have NT:=I (Qp hQ);have HAD:=I (Yp hQ);have Gh:=I hD.hN;have Ld:=I hD.hQ;have uh:=I (show S.ws.length=2 from hD.dR);have NY:=I (show Below w0.heap.size w0 w1 from by have:=DQ.b0 (Qp hQ);rw[hD.hw]at this;exact this);have Dn:=I (bW (Z Tj) (Z NY));have Yr:=I ((Z Oi).below (Z NY));have Dg:Hid (∀x,x<C.k->(C.fr x).length=C.k/\∀i∈C.fr x,i<C.k):=λx hx=>by
  have D:=hD.D;obtain rfl:x=0:=by omega
  rw[hD.oH,D];exact⟨rfl,λi hi=>by simp at hi;omega⟩
 clear hD hQ hg UB;by_cases hl:100<ln
 ·have d1:decide ((100:Int)<ln)=true:=by simp;omega
  have d2:decide ((ln:Int)>100)=true:=by simp;omega
  go_wp2;go_ret;exact⟨rfl,Z Dn⟩
 have d1:decide ((100:Int)<ln)=false:=by simp;omega
 have d2:decide ((ln:Int)>100)=false:=by simp;omega
 by_cases hr:1<=rv/\rv<=16;case neg =>
  as_aux_lemma =>
  have Rj:=I (Ge (Z Yr) C.d 0 rv hr);unfold bc at*;go_wp2_with fail;refine(Z Rj).mono ?_;rintro ev w2⟨rfl,b2⟩;have G2:=bW (Z Dn) b2;clear Rj;go_wp2_with fail;refine(BC (y:=0) M.rd rv hr w2).mono ?_;rintro ev w3⟨rfl,rfl⟩;have uj:=I (wE ((Z Yr).below b2) 0 rv);have HQ2:=I (λW (hW:Below w1.heap.size w1 W)=>Qq ((Z NT).b hW) ((Z HAD).b hW) (λ_ h=>h));unfold bc at*;go_wp2_with fail;refine(Z uj).mono ?_;rintro ev w4⟨rfl,b4⟩;have G4:=bW b2 b4;have xO:=I (gT 2 (by omega) 3 rfl w4 e ((Z Yr).below G4));clear uj;go_wp2_with fail;refine(Z xO).mono ?_;rintro ev w5⟨rfl,b5⟩;have G5:=bW G4 b5;have xI:=I (gT 1 (by omega) 2 rfl w5 e ((Z Yr).below G5));clear xO;go_wp2_with fail;refine(Z xI).mono ?_;rintro ev w6⟨rfl,b6⟩;have G6:=bW G5 b6;have HAS:=I (kL ((Z HQ2) w6 G6) (by rw[Z Ld];omega) (by have:=Z uh;omega));clear xI;go_wp2_with fail;refine(Z HAS).mono ?_;rintro ev w7⟨rfl,b7⟩;go_wp2;go_ret;exact⟨rfl,bW (Z Dn) (bW G6 b7)⟩
 case pos =>
 obtain⟨nn,rfl⟩:=bw (show 0<=rv by omega);have Io:=I (NV (ab7:=λ_=>False) (X:=λ_=>none) (B:=C.w0.heap.size) (Z NT) (Z Gh) (show dM C.w0 e from by rw[Z Dp];exact Z Oi) (ζ _) (DQ.b0 (Z NT)).size (n:=nn) (by omega) 0 (by rw[Z Ld];omega));unfold bc at*;go_wp2_with fail;refine(Z Io).mono ?_;rintro ev w2(⟨rfl,S',R,vr,hl,hT,hP,hF⟩|⟨m,S1,S2,S',R,rfl,hl,hT,hm,hF2,hG,Oh,hF⟩);case inr =>
  as_aux_lemma =>
  have Ys:=(Z HAD).pf hF (λ_ h=>h) (λj h=>(by cases h));have mM:C.N0<=w2.heap.size/\C.w0.heap.size<=w2.heap.size:=⟨DQ.low Oh,(DQ.b0 Oh).size⟩;have mC:=(Z NT).fa;have HRF:=I (FM (B:=C.w0.heap.size) Ys mM (n:=nn) (by omega) mC (by rw[Z Ld];omega) (Z Dg) hT hl hm hF2 hG (by have:=Z uh;omega));have abj:=BS hm;obtain⟨f,f0,f1,f2,f3⟩:=mG hG hF2;have fl:=f2 R.length (ζ _);rw[f1]at fl;obtain⟨g,g0,g1,g2,g3⟩:=mH hT mC;have gl:=g2 R.length (ζ _);rw[g1]at gl;have Gp:S2.ab5=S1.ab5:=qi hm;have hw2:S2.ws.length=S1.ws.length:=hm.wl;have HQ9:Hid (S'.ab5<=1000):=by
   show S'.ab5<=1000;have:=Z Ld;omega
  have HW9:Hid (S'.ws.length<=4):=by
   show S'.ws.length<=4;have:=Z uh;omega
  have Yt:=I Oh;have kg:=I (show Below w0.heap.size w0 w2 from by have:=DQ.b0 Oh;rw[Z Dp]at this;exact this);clear Ys mM mC hT hm hF2 hG f0 f1 f2 f3 fl g0 g1 g2 g3 gl Gp hw2 Oh hF;unfold bc at*;go_wp2_with fail;refine(Z HRF).mono ?_;rintro ev w3⟨U',rfl,Qd,K,hu⟩;have HQD:=I (λW (hW:Below w3.heap.size w3 W)=>Qq (ab7:=U') ((Kv (Z Yt) (Z Gh) K (λj E=>⟨Qd.u j E,(hu j E).elim (λh=>h.elim) id⟩)).b hW) (Qd.b hW) (λ_ h=>h));have tu:=I (show Below w0.heap.size w0 w3 from by
   have:=DQ.b0 (Kv (Z Yt) (Z Gh) K (U':=U') (λj E=>⟨Qd.u j E,(hu j E).elim (λh=>h.elim) id⟩));rw[Z Dp]at this;exact this)
  have uj:=I (wE ((Z Oi).below (Z tu)) 0 nn);clear HRF Qd K hu;unfold bc at*;go_wp2_with fail;refine(Z uj).mono ?_;rintro ev w4⟨rfl,b4⟩;have xO:=I (gT 2 (by omega) 3 rfl w4 e ((Z Oi).below (bW (Z tu) b4)));clear uj;go_wp2_with fail;refine(Z xO).mono ?_;rintro ev w5⟨rfl,b5⟩;have G5:=bW b4 b5;have dm1:decide ((m:Int)+1>0)=true:=aM (by omega);have dm2:(0:Int)<(m:Int)+1:=by omega
  have xI:=I (gT m abj ((m:Int)+1) rfl w5 e ((Z Oi).below (bW (Z tu) G5)));clear xO;go_wp2_with fail;refine(Z xI).mono ?_;rintro ev w6⟨rfl,b6⟩;have G6:=bW G5 b6;have HAS:=I (kL ((Z HQD) w6 G6) (Z HQ9) (Z HW9));clear xI;go_wp2_with fail;refine(Z HAS).mono ?_;rintro ev w7⟨rfl,b7⟩;go_wp2;go_ret;exact⟨rfl,bW (Z Tj) (bW (Z tu) (bW G6 b7))⟩
 case inl =>
 have Ys:=(Z HAD).pf hF (λ_ h=>h) (λj h=>(by cases h));have mM:C.N0<=w2.heap.size/\C.w0.heap.size<=w2.heap.size:=⟨DQ.low hP.k,(DQ.b0 hP.k).size⟩;have mC:=(Z NT).fa;have Xy:=I (u_ (B:=C.w0.heap.size) Ys mM (n:=nn) (by omega) mC (by rw[Z Ld];omega) (Z Dg) hT hl);have OG:=I hP;have CH:=I hT;have wq:=I mC;clear Io Ys mM mC hF hP hT;go_wp2_with fail;refine(Z Xy).mono ?_;rintro ev w3⟨vR,U',rfl,hR,K,hu,hv⟩;obtain⟨p,e1,e2,e3,e4,iy,Wb,e5,S3⟩:∃p:Px,p.C=C/\p.M=M/\p.Y=w1.heap.size+1+1/\p.aK=w2.heap.size/\wR p/\Hid (p.C.w0=w0)/\p.e=e/\Hid (St p 0 (OB (.slice none 0 0)) w3):=
  ⟨⟨C.w0.heap.size,C,M,w1.heap.size+1+1,w2.heap.size,λ_=>none,e⟩,rfl,rfl,rfl,rfl,⟨Z Gh,show dM C.w0 e from by rw[Z Dp];exact Z Oi,show 11<C.w0.heap.size from by rw[Z Dp];exact hw0,Z Dg⟩,Z Dp,rfl,
   Kw (p:=⟨C.w0.heap.size,C,M,w1.heap.size+1+1,w2.heap.size,λ_=>none,e⟩) ⟨Z Gh,show dM C.w0 e from by rw[Z Dp];exact Z Oi,show 11<C.w0.heap.size from by rw[Z Dp];exact hw0,Z Dg⟩ (Z OG) hR K (λj E=>(hu j E).elim (λh=>h.elim) id) hv (Z CH) (Z wq) (Z Ld) (Z uh) (by omega) hl⟩
 clear Xy hR K hu hv OG CH wq Dg Gh HAD NT Dp Ld uh NY Dn Yr;generalize w1.heap.size+1+1=Y at*;generalize w2.heap.size=aK at*;subst e1 e2 e3 e4 e5;have oz:Hid (∀n ab4 W,St p n ab4 W->Below w.heap.size w W):=λn ab4 W h=>bW (Z Tj) (by have:=(dG iy n).low h;rw[Z Wb]at this;exact this);have Le:Hid (dM w p.e):=Z HEW;have uj:=I (wE ((Z Le).below ((Z oz) _ _ _ (Z S3))) 0 nn);unfold bc at*;go_wp2_with fail;refine(Z uj).mono ?_;rintro ev w4⟨rfl,b4⟩;have xO:=I (gT 2 (by omega) 3 rfl w4 p.e ((Z Le).below (bW ((Z oz) _ _ _ (Z S3)) b4)));have S4:=I ((dG iy _).b (Z S3) b4);clear uj b4 S3;go_wp2_with fail;refine(Z xO).mono ?_;rintro ev w5⟨rfl,b5⟩;have SS:=I ((dG iy _).b (Z S4) b5);clear xO b5 S4 Oi Tj hw0 hmx Wb;have MU:∀(a b:Int),0<=a->0<b->Int.tmod a b=a%b:=λa b ha _=>Int.tmod_eq_emod_of_nonneg ha;go_wp2_with fail;go_loopw [21,22] (λtv tx wr=>∃(j kk:Nat) (lo:List Bl) (po:Option Addr) (cp:Nat),tv=.slice po kk cp/\tx=.int .i64 j/\j<=ln/\kk<=j/\lo.length=kk/\Hid (wr.ownsRow w.heap.size 34 2 (.slice po kk cp) kk (flat lo))/\Hid (∀o∈lo,W2 o.1 o.2)/\Hid (St p j (OB (.slice po kk cp)) wr)) (λ_ s _=>ln-(intOf s).toNat)
 case atStart=>exact⟨0,0,[],none,0,rfl,rfl,Γ _,ζ _,rfl,Ξ _ _ _ _,λo ho=>(by cases ho),SS⟩
 case round =>
  clear SS;obtain⟨j,kk,lo,po,cp,rfl,rfl,E,hkj,mM,HR,GH,HS⟩:=hrel;have oG:(0:Int)<=j:=by omega
  have hwj:IntKind.i64.wrap ((j:Int)+1)=(j:Int)+1:=aB _ (by omega);by_cases qm:j<ln
  ·have hlt:(j:Int)<ln:=by omega
   obtain⟨blk,off,rfl,hbl,c0,c1,c2,c3,c4,c5⟩:=(Z ZT) j qm;obtain⟨LZ,hwo⟩:=(Z ZR) j qm;generalize A j=a at*;obtain⟨s,ak,ax,an,ox,oa⟩:=a;simp only at c0 c1 c2 c3 c4 c5 LZ hwo;have HWN:=I LZ;have wQ:=I hwo;have hB:=(Z oz) _ _ _ (Z HS);have k0:=(hB.cell (p:=⟨blk,_,none⟩) hbl).trans c0;have k1:=(hB.cell (p:=⟨blk,_,none⟩) hbl).trans c1;have k2:=(hB.cell (p:=⟨blk,_,none⟩) hbl).trans c2;have k3:=(hB.cell (p:=⟨blk,_,none⟩) hbl).trans c3;have k4:=(hB.cell (p:=⟨blk,_,none⟩) hbl).trans c4;have k5:=(hB.cell (p:=⟨blk,_,none⟩) hbl).trans c5;clear c0 c1 c2 c3 c4 c5 hB LZ hwo;have f5:=χ (γ wr.heap.size wr) (.cells #[.string s,.int .i64 ak,.int .i64 ax,.int .i64 an,.int .i64 ox,.int .i64 oa] 51);have m5:=θ wr #[.string s,.int .i64 ak,.int .i64 ax,.int .i64 an,.int .i64 ox,.int .i64 oa] 51;have T5:=I (bB wr #[.string s,.int .i64 ak,.int .i64 ax,.int .i64 an,.int .i64 ox,.int .i64 oa] 51);have S5:=I ((dG iy _).b (Z HS) f5);have R5:=I (aN (Z HR) f5);have a0:=m5 0;have a1:=m5 1;have a2:=m5 2;have a3:=m5 3;have a4:=m5 4;have a5:=m5 5;simp only[Δ,υ,ω]at a0 a1 a2 a3 a4 a5;have gM:=I mM;clear HS HR f5 m5 mM;go_upto_region 19 with(fail);generalize wr.alloc (.cells #[.string s,.int .i64 ak,.int .i64 ax,.int .i64 an,.int .i64 ox,.int .i64 oa] 51)=W5 at*;generalize wr.heap.size=bb at*;clear k0 k1 k2 k3 k4 k5;have Bt:Hid (∀W':World,W'.heap[bb]?=W5.heap[bb]?->W'.cell? ⟨bb,1,none⟩=some (.int .i64 ak)/\W'.cell? ⟨bb,2,none⟩=some (.int .i64 ax)/\W'.cell? ⟨bb,3,none⟩=some (.int .i64 an)):=λW' J=>⟨(η (w:=W5) (a:=⟨bb,1,none⟩) J).trans a1,(η (w:=W5) (a:=⟨bb,2,none⟩) J).trans a2,(η (w:=W5) (a:=⟨bb,3,none⟩) J).trans a3⟩;cases hG1:(s.toList==[116,97,107,101])with
   |true =>
    as_aux_lemma =>
    have gL:=I (Tt iy (Z S5) (by omega) ak ax);unfold A2 at gL;clear a3 a4 a5;go_wp2_with fail;refine(Z gL).mono ?_;rintro ev w6⟨v1,v2,ab9,rfl,⟨⟨oN,oA⟩,er,r,rfl,rfl,sk,hw2⟩,hop,hK,lA,hR⟩;have F7:=χ (γ w6.heap.size w6) (cB oN oA);have K7:=hop.more hK F7 (ζ _) (bB _ _ _);have oK:=I (Mg.Bx.new w6 oN oA);have nH:=I (aN (aI (Z R5) (λg hg=>lA.o g hg)) F7);have uJ:=lA.s bb 51 (by simp) (Z T5);have FB:=F7.block bb (ι (Z T5).lt lA.z);have Qs:=I ((Z Bt) _ (FB.trans uJ));have gP:=I (hR _ _ K7);have oL:=I sk;have I8:=I hw2;have Tx:Hid (∀o∈lo++[(oN,oA)],W2 o.1 o.2):=λo ho=>by
     rcases aC.1 ho with ho|ho
     ·exact(Z GH) o ho
     ·simp only[aw]at ho;rw[ho];exact hw2
    clear gL F7 K7 hK lA hR sk hw2 uJ FB R5 S5 T5 Bt a1 a2 hop;unfold bz at*;simp only at*;go_upto_region 26 with(fail);generalize w6.alloc (cB oN oA)=W7 at*;generalize w6.heap.size=p7 at*;obtain⟨a1,a2,a3⟩:=Z Qs;go_wp2_with fail;refine(Z gP).mono ?_;rintro ev w8⟨rfl,S8,lh⟩;have F9:=χ (γ w8.heap.size w8) (cB oN oA);have Qt:=I (((Z oK).blk (lh.o p7 (δ rfl))).b F9);have Qu:=I (Mg.Bx.new w8 oN oA);have kU:=I (aN (aI (Z nH) (λg hg=>lh.o g (ε hg))) F9);have S9:=I ((dG iy _).less ((dG iy _).b S8 F9) (λj E=>ε E));have jE:=I ((Z oL).1 _ ((Z Le).below ((Z oz) _ _ _ (Z S9))));clear gP S8 lh F9 oK nH Qs a1 a2 a3;go_upto_region 27 with(fail);generalize w8.alloc (cB oN oA)=W9 at*;generalize w8.heap.size=p9 at*;go_wp2_with fail;refine(Z jE).mono ?_;rintro ev jD⟨rfl,iv⟩;obtain⟨y0,y1⟩:=(Z Qt).b iv;obtain⟨z0,z1⟩:=(Z Qu).b iv;simp only at y0 y1 z0 z1;have iI:=I (aN (Z kU) iv);have lj:=I ((dG iy _).b (Z S9) iv);clear jE iv Qt Qu kU S9;rcases(Z oL).2 with⟨rfl,rfl⟩|wI
    ·as_aux_lemma =>
     clear oL;have wF:=χ (γ jD.heap.size jD) (cB oN oA);have Yu:=I (aN (Z iI) wF);have Yv:=I ((dG iy _).b (Z lj) wF);have NG:=I (σ ((Z oz) _ _ _ (Z lj)).size wF.size);have jG:kk<=200:=by omega
     clear wF iI lj;go_wp2_with (at_builtin;refine Pr rfl (.tmp 171) (.tmp 173) rfl w.heap.size (.slice po kk cp) kk (flat lo) (by simp[Act.eval]) (Z Yu) (by simp[Act.eval]) (by omega) (Z NG) ?_;intro g4 Fh Xz o4 q4 hg4 kE;have Ty:=I ((dG iy _).grown (Z Yv) q4 o4 hg4);have Yw:=I o4;clear o4 q4 hg4 kE Yu Yv);clear y0 y1 z0 z1 NG;obtain⟨k5,L5,p2,p4,c2,c4,ik,il,mP,sW,eR,y2,y4,nk⟩:=jV (Z Ty) (by omega);go_upto_region 50 with(fail);go_region_held3 (λw'=>w'.cell? ⟨p.aK,2,none⟩=some (.slice p2 k5 c2)/\w'.cell? ⟨p.aK,4,none⟩=some (.slice p4 L5.length c4)) ((first|(go_keep;done)|assumption)) ((first
      |(go_at_call 18;refine(Z ik).mono ?_;rintro ev Oj⟨rfl,rfl⟩)
      |(go_at_call 17;refine(Z il).mono ?_;rintro ev wG⟨p7,c7,rfl,oB,jq⟩;have tv:=(Z eR) wG jq;have im:=I (eC oB (aN (Z mP) jq) rfl (Z nk));have fE:=I jq;clear oB jq)
      |(go_at_call 32;refine(Z im).mono ?_;rintro ev wH⟨rfl,kM⟩;have tx:=(Z eR) wH (bW (Z fE) kM))))
     all_goals
      have kN:=bW (bW (dw Xz) (Z fE)) kM;have sZ:=I ((dG iy _).b (Z Ty) kN);have oC:=I (aN (Z Yw) kN);clear ik il mP sW eR y2 y4 nk tv tx im fE kM kN Ty Yw;go_wp2_with fail;go_roundw;case rel=>exact⟨j+1,kk+1,lo++[(oN,oA)],some ⟨g4,0,none⟩,Fh,rfl,by go_num,by omega,by omega,by first|exact Z gM|simp[Z gM],by first|exact oC|(rw[dP];exact oC),Tx,sZ⟩
      case measure=>simp[intOf];omega
    ·as_aux_lemma =>
     have hr1:(r==0)=false:=by simpa using wI
     have hr2:decide (r=0)=false:=by simpa using wI
     clear oL I8;obtain⟨k5,L5,p2,p4,c2,c4,ik,il,mP,sW,eR,y2,y4,nk⟩:=jV (Z lj) (by omega);go_upto_region 50 with(fail);go_region_held3 (λw'=>w'.cell? ⟨p.aK,2,none⟩=some (.slice p2 k5 c2)/\w'.cell? ⟨p.aK,4,none⟩=some (.slice p4 L5.length c4)) ((first|(go_keep;done)|assumption)) ((first
      |(go_at_call 18;refine(Z ik).mono ?_;rintro ev Oj⟨rfl,rfl⟩)
      |(go_at_call 17;refine(Z il).mono ?_;rintro ev wG⟨p7,c7,rfl,oB,jq⟩;have tv:=(Z eR) wG jq;have im:=I (eC oB (aN (Z mP) jq) rfl (Z nk));have fE:=I jq;clear oB jq)
      |(go_at_call 32;refine(Z im).mono ?_;rintro ev wH⟨rfl,kM⟩;have tx:=(Z eR) wH (bW (Z fE) kM))))
     all_goals
      have kN:=bW (bW (dw jD) (Z fE)) kM;have sZ:=I ((dG iy _).b (Z lj) kN);have oC:=I (aN (Z iI) kN);clear ik il mP sW eR y2 y4 nk tv tx im fE kM kN lj iI;go_wp2_with fail;go_roundw;case rel=>exact⟨j+1,kk,lo,po,cp,rfl,by go_num,by omega,by omega,by first|exact Z gM|simp[Z gM],by first|exact oC|(rw[dP];exact oC),GH,sZ⟩
      case measure=>simp[intOf];omega
   |false =>
    cases hG2:(s.toList==[103,105,118,101])with
    |true =>
     as_aux_lemma =>
     have F6:=χ (γ W5.heap.size W5) (cB ox oa);have R6:=Yo W5 ox oa;have S6:=I ((dG iy _).more (Z S5) F6 (ζ _) R6.tg);clear a1 a2;by_cases hgv:0<=an/\0<kk
     ·obtain⟨han,EZ⟩:=hgv;have d2:decide ((kk:Int)>0)=true:=by simp;omega
      have d3:decide (an>=0)=true:=by simp;omega
      obtain⟨t,ht⟩:=bw (Int.emod_nonneg an (show(kk:Int)≠0 by omega));have kV:t<kk:=by have:=Int.emod_lt_of_pos an (show(0:Int)<kk by omega);omega
      have TU:Int.tmod an (kk:Int)=t:=(MU an kk han (by omega)).trans ht;obtain⟨⟨gx,gy⟩,ho⟩:∃o,lo[t]?=some o:=⟨_,ξ (by rw[Z gM];exact kV)⟩;have ZX:=I ((Z GH) (gx,gy) (aH ho));have Y3:=aN (Z R5) F6;obtain⟨g4,rfl,g0,g1⟩:=jb Y3 (Z gM) ho;have zq:(0:Int)<=t:=by omega
      have Y5:(t:Int)<kk:=by omega
      have hkz:((kk:Int)==0)=false:=by simp;omega
      have Z9:=(F6.cell (p:=⟨bb,3,none⟩) (Z T5).lt).trans a3;obtain⟨r0,r1,bQ,_⟩:=id R6;have f0:=bQ 0;have f1:=bQ 1;have oK:=I ((F6.setCell (p:=⟨W5.heap.size,0,none⟩) (ζ _) (.int .i64 gx)).setCell (p:=⟨W5.heap.size,1,none⟩) (ζ _) (.int .i64 gy));have R7:=Yn R6 gx gy;have S7:=I ((dG iy _).set ((dG iy _).set (Z S6) (b:=W5.heap.size) (δ rfl) 0 (.int .i64 gx)) (b:=W5.heap.size) (δ rfl) 1 (.int .i64 gy));have mJ:=I (show Mg.Bx _ W5.heap.size (gx,gy)from⟨R7.c0,R7.c1⟩);have T7:=I R7.tg;clear Y3 ho bQ R6 R7 F6 S6;go_upto_region 33 with(fail);generalize W5.alloc (cB ox oa)=W6 at*;generalize Yx:W5.heap.size=p6 at*;go_upto_region 35 with(fail);generalize(W6.setCell ⟨p6,0,none⟩ (.int .i64 gx)).setCell ⟨p6,1,none⟩ (.int .i64 gy)=W7 at*;clear a0 a3 a4 a5 Z9 r0 r1 f0 f1 g0 g1 TU ht;have oK:=I (show Below W5.heap.size W5 W7 from by rw[Yx];exact Z oK);clear Yx;have nH:=I (aN (Z R5) (Z oK));have Ca:=I ((Z T5).b (Z oK));have s7:W7.cell? ⟨bb,1,none⟩=some (.int .i64 ak)/\W7.cell? ⟨p6,0,none⟩=some (.int .i64 gx)/\W7.cell? ⟨p6,1,none⟩=some (.int .i64 gy):=⟨((Z Bt) W7 ((Z oK).block bb (Z T5).lt)).1,(Z mJ).b0,(Z mJ).b1⟩;clear R5 T5 S5 Bt oK mJ;have K7:=(dG iy _).b (Z S7) (dw W7);have gL:=I (BZ iy K7 (by omega) ak (o:=(gx,gy)) (Z ZX));unfold A2 at gL;simp only at gL;have Kz:=I (aN (Z nH) (dw W7));have Cb:=I ((Z Ca).b (dw W7));have Qv:=I ((Z T7).b (dw W7));have DW:W7.drew.cell? ⟨bb,1,none⟩=some (.int .i64 ak)/\W7.drew.cell? ⟨p6,0,none⟩=some (.int .i64 gx)/\W7.drew.cell? ⟨p6,1,none⟩=some (.int .i64 gy):=s7;obtain⟨a1,QZ,OT⟩:=s7;clear K7 S7 nH Ca T7;go_wp2_with fail;go_region_held3 (λw'=>w'.cell? ⟨bb,1,none⟩=some (.int .i64 ak)/\w'.cell? ⟨p6,0,none⟩=some (.int .i64 gx)/\w'.cell? ⟨p6,1,none⟩=some (.int .i64 gy)) ((first|(go_keep;done)|assumption)) ((first
       |(go_at_call 19;refine(Z gL).mono ?_;rintro ev w8⟨v1,v2,ab9,rfl,⟨r,rfl,sk⟩,hop,hK,lA,hR⟩;have nA:=lA.s bb 51 (by simp) (Z Cb);have l_:=lA.o p6 (δ rfl);have s8:w8.cell? ⟨bb,1,none⟩=some (.int .i64 ak)/\w8.cell? ⟨p6,0,none⟩=some (.int .i64 gx)/\w8.cell? ⟨p6,1,none⟩=some (.int .i64 gy):=⟨(η (a:=⟨bb,1,none⟩) nA).trans DW.1,(η (a:=⟨p6,0,none⟩) l_).trans DW.2.1,(η (a:=⟨p6,1,none⟩) l_).trans DW.2.2⟩;have DY:=I ((Z Cb).blk nA);have zo:=I ((Z Qv).blk l_);have oJ:=I (aI (Z Kz) (λg hg=>lA.o g (ε hg)));have gP:=I (hR _ _ hK);have oL:=I sk;clear hK lA hR sk hop nA l_)
       |(go_at_call 24;refine(Z gP).mono ?_;rintro ev w9⟨rfl,S9,oD⟩;have nA:=oD.s bb 51 (by simp) (Z DY);have l_:=oD.o p6 (δ rfl);have s9:w9.cell? ⟨bb,1,none⟩=some (.int .i64 ak)/\w9.cell? ⟨p6,0,none⟩=some (.int .i64 gx)/\w9.cell? ⟨p6,1,none⟩=some (.int .i64 gy):=⟨(η (a:=⟨bb,1,none⟩) nA).trans s8.1,(η (a:=⟨p6,0,none⟩) l_).trans s8.2.1,(η (a:=⟨p6,1,none⟩) l_).trans s8.2.2⟩;have DU:=I ((Z DY).blk nA);have sq:=I ((Z zo).blk l_);have kU:=I (aI (Z oJ) (λg hg=>oD.o g (ε hg)));have jE:=I ((Z oL).1 _ ((Z Le).below ((Z oz) _ _ _ S9)));have Qw:=I ((dG iy _).less S9 (λj E=>ε E));clear S9 oD nA l_)
       |(go_at_call 16;refine(Z jE).mono ?_;rintro ev jD⟨rfl,iv⟩;have Iq:jD.cell? ⟨bb,1,none⟩=some (.int .i64 ak)/\jD.cell? ⟨p6,0,none⟩=some (.int .i64 gx)/\jD.cell? ⟨p6,1,none⟩=some (.int .i64 gy):=⟨(iv.cell (p:=⟨bb,1,none⟩) (Z DU).lt).trans s9.1,(iv.cell (p:=⟨p6,0,none⟩) (Z sq).lt).trans s9.2.1,(iv.cell (p:=⟨p6,1,none⟩) (Z sq).lt).trans s9.2.2⟩)))
      all_goals
       have iI:=I (aN (Z kU) iv);have lj:=I ((dG iy _).b (Z Qw) iv);clear gL Kz Cb Qv DW s8 s9 Iq DY zo DU sq gP oL jE oJ kU Qw iv a1 QZ OT;go_wp2_with fail;obtain⟨k5,L5,p2,p4,c2,c4,ik,il,mP,sW,eR,y2,y4,nk⟩:=jV (Z lj) (by omega);go_region_held3 (λw'=>w'.cell? ⟨p.aK,2,none⟩=some (.slice p2 k5 c2)/\w'.cell? ⟨p.aK,4,none⟩=some (.slice p4 L5.length c4)) ((first|(go_keep;done)|assumption)) ((first
        |(go_at_call 18;refine(Z ik).mono ?_;rintro ev Oj⟨rfl,rfl⟩)
        |(go_at_call 17;refine(Z il).mono ?_;rintro ev wG⟨p7,c7,rfl,oB,jq⟩;have tv:=(Z eR) wG jq;have im:=I (eC oB (aN (Z mP) jq) rfl (Z nk));have fE:=I jq;clear oB jq)
        |(go_at_call 32;refine(Z im).mono ?_;rintro ev wH⟨rfl,kM⟩;have tx:=(Z eR) wH (bW (Z fE) kM))))
       all_goals
        have kN:=bW (bW (dw jD) (Z fE)) kM;have sZ:=I ((dG iy _).b (Z lj) kN);have oC:=I (aN (Z iI) kN);clear ik il mP sW eR y2 y4 nk tv tx im fE kM kN lj iI;go_wp2_with fail;go_roundw;case rel=>exact⟨j+1,kk,lo,some ⟨g4,0,none⟩,cp,rfl,by go_num,by omega,by omega,by first|exact Z gM|simp[Z gM],by first|exact oC|(rw[dP];exact oC),GH,sZ⟩
        case measure=>simp[intOf];omega
     ·have mJ:=I (show Mg.Bx (W5.alloc (cB ox oa)) W5.heap.size (ox,oa)from⟨R6.c0,R6.c1⟩);have T7:=I R6.tg;have oK:=I F6;have S7:=I (Z S6);have Z9:=(F6.cell (p:=⟨bb,3,none⟩) (Z T5).lt).trans a3;clear R6 F6 S6;go_upto_region 33 with(fail);generalize W5.alloc (cB ox oa)=W7 at*;generalize Yx:W5.heap.size=p6 at*;have oK:=I (show Below W5.heap.size W5 W7 from by rw[Yx];exact Z oK);clear Yx;have nH:=I (aN (Z R5) (Z oK));have Ca:=I ((Z T5).b (Z oK));have s7:W7.cell? ⟨bb,1,none⟩=some (.int .i64 ak)/\W7.cell? ⟨p6,0,none⟩=some (.int .i64 ox)/\W7.cell? ⟨p6,1,none⟩=some (.int .i64 oa):=⟨((Z Bt) W7 ((Z oK).block bb (Z T5).lt)).1,(Z mJ).b0,(Z mJ).b1⟩;clear R5 T5 S5 Bt oK mJ a4 a5;by_cases han:0<=an
      ·have d3:decide (an>=0)=true:=by simp;omega
       have d2:decide ((kk:Int)>0)=false:=by simp;omega
       go_upto_region 35 with(fail);clear a0 a3 Z9;have K7:=(dG iy _).b (Z S7) (dw W7);have gL:=I (BZ iy K7 (by omega) ak (o:=(ox,oa)) (Z wQ));unfold A2 at gL;simp only at gL;have Kz:=I (aN (Z nH) (dw W7));have Cb:=I ((Z Ca).b (dw W7));have Qv:=I ((Z T7).b (dw W7));have DW:W7.drew.cell? ⟨bb,1,none⟩=some (.int .i64 ak)/\W7.drew.cell? ⟨p6,0,none⟩=some (.int .i64 ox)/\W7.drew.cell? ⟨p6,1,none⟩=some (.int .i64 oa):=s7;obtain⟨a1,QZ,OT⟩:=s7;clear K7 S7 nH Ca T7;go_wp2_with fail;go_region_held3 (λw'=>w'.cell? ⟨bb,1,none⟩=some (.int .i64 ak)/\w'.cell? ⟨p6,0,none⟩=some (.int .i64 ox)/\w'.cell? ⟨p6,1,none⟩=some (.int .i64 oa)) ((first|(go_keep;done)|assumption)) ((first
        |(go_at_call 19;refine(Z gL).mono ?_;rintro ev w8⟨v1,v2,ab9,rfl,⟨r,rfl,sk⟩,hop,hK,lA,hR⟩;have nA:=lA.s bb 51 (by simp) (Z Cb);have l_:=lA.o p6 (δ rfl);have s8:w8.cell? ⟨bb,1,none⟩=some (.int .i64 ak)/\w8.cell? ⟨p6,0,none⟩=some (.int .i64 ox)/\w8.cell? ⟨p6,1,none⟩=some (.int .i64 oa):=⟨(η (a:=⟨bb,1,none⟩) nA).trans DW.1,(η (a:=⟨p6,0,none⟩) l_).trans DW.2.1,(η (a:=⟨p6,1,none⟩) l_).trans DW.2.2⟩;have DY:=I ((Z Cb).blk nA);have zo:=I ((Z Qv).blk l_);have oJ:=I (aI (Z Kz) (λg hg=>lA.o g (ε hg)));have gP:=I (hR _ _ hK);have oL:=I sk;clear hK lA hR sk hop nA l_)
        |(go_at_call 24;refine(Z gP).mono ?_;rintro ev w9⟨rfl,S9,oD⟩;have nA:=oD.s bb 51 (by simp) (Z DY);have l_:=oD.o p6 (δ rfl);have s9:w9.cell? ⟨bb,1,none⟩=some (.int .i64 ak)/\w9.cell? ⟨p6,0,none⟩=some (.int .i64 ox)/\w9.cell? ⟨p6,1,none⟩=some (.int .i64 oa):=⟨(η (a:=⟨bb,1,none⟩) nA).trans s8.1,(η (a:=⟨p6,0,none⟩) l_).trans s8.2.1,(η (a:=⟨p6,1,none⟩) l_).trans s8.2.2⟩;have DU:=I ((Z DY).blk nA);have sq:=I ((Z zo).blk l_);have kU:=I (aI (Z oJ) (λg hg=>oD.o g (ε hg)));have jE:=I ((Z oL).1 _ ((Z Le).below ((Z oz) _ _ _ S9)));have Qw:=I ((dG iy _).less S9 (λj E=>ε E));clear S9 oD nA l_)
        |(go_at_call 16;refine(Z jE).mono ?_;rintro ev jD⟨rfl,iv⟩;have Iq:jD.cell? ⟨bb,1,none⟩=some (.int .i64 ak)/\jD.cell? ⟨p6,0,none⟩=some (.int .i64 ox)/\jD.cell? ⟨p6,1,none⟩=some (.int .i64 oa):=⟨(iv.cell (p:=⟨bb,1,none⟩) (Z DU).lt).trans s9.1,(iv.cell (p:=⟨p6,0,none⟩) (Z sq).lt).trans s9.2.1,(iv.cell (p:=⟨p6,1,none⟩) (Z sq).lt).trans s9.2.2⟩)))
       all_goals
        have iI:=I (aN (Z kU) iv);have lj:=I ((dG iy _).b (Z Qw) iv);clear gL Kz Cb Qv DW s8 s9 Iq DY zo DU sq gP oL jE oJ kU Qw iv a1 QZ OT;go_wp2_with fail;obtain⟨k5,L5,p2,p4,c2,c4,ik,il,mP,sW,eR,y2,y4,nk⟩:=jV (Z lj) (by omega);go_region_held3 (λw'=>w'.cell? ⟨p.aK,2,none⟩=some (.slice p2 k5 c2)/\w'.cell? ⟨p.aK,4,none⟩=some (.slice p4 L5.length c4)) ((first|(go_keep;done)|assumption)) ((first
         |(go_at_call 18;refine(Z ik).mono ?_;rintro ev Oj⟨rfl,rfl⟩)
         |(go_at_call 17;refine(Z il).mono ?_;rintro ev wG⟨p7,c7,rfl,oB,jq⟩;have tv:=(Z eR) wG jq;have im:=I (eC oB (aN (Z mP) jq) rfl (Z nk));have fE:=I jq;clear oB jq)
         |(go_at_call 32;refine(Z im).mono ?_;rintro ev wH⟨rfl,kM⟩;have tx:=(Z eR) wH (bW (Z fE) kM))))
        all_goals
         have kN:=bW (bW (dw jD) (Z fE)) kM;have sZ:=I ((dG iy _).b (Z lj) kN);have oC:=I (aN (Z iI) kN);clear ik il mP sW eR y2 y4 nk tv tx im fE kM kN lj iI;go_wp2_with fail;go_roundw;case rel=>exact⟨j+1,kk,lo,po,cp,rfl,by go_num,by omega,by omega,by first|exact Z gM|simp[Z gM],by first|exact oC|(rw[dP];exact oC),GH,sZ⟩
         case measure=>simp[intOf];omega
      ·have d3:decide (an>=0)=false:=by simp;omega
       go_upto_region 35 with(fail);clear a0 a3 Z9;have K7:=(dG iy _).b (Z S7) (dw W7);have gL:=I (BZ iy K7 (by omega) ak (o:=(ox,oa)) (Z wQ));unfold A2 at gL;simp only at gL;have Kz:=I (aN (Z nH) (dw W7));have Cb:=I ((Z Ca).b (dw W7));have Qv:=I ((Z T7).b (dw W7));have DW:W7.drew.cell? ⟨bb,1,none⟩=some (.int .i64 ak)/\W7.drew.cell? ⟨p6,0,none⟩=some (.int .i64 ox)/\W7.drew.cell? ⟨p6,1,none⟩=some (.int .i64 oa):=s7;obtain⟨a1,QZ,OT⟩:=s7;clear K7 S7 nH Ca T7;go_wp2_with fail;go_region_held3 (λw'=>w'.cell? ⟨bb,1,none⟩=some (.int .i64 ak)/\w'.cell? ⟨p6,0,none⟩=some (.int .i64 ox)/\w'.cell? ⟨p6,1,none⟩=some (.int .i64 oa)) ((first|(go_keep;done)|assumption)) ((first
        |(go_at_call 19;refine(Z gL).mono ?_;rintro ev w8⟨v1,v2,ab9,rfl,⟨r,rfl,sk⟩,hop,hK,lA,hR⟩;have nA:=lA.s bb 51 (by simp) (Z Cb);have l_:=lA.o p6 (δ rfl);have s8:w8.cell? ⟨bb,1,none⟩=some (.int .i64 ak)/\w8.cell? ⟨p6,0,none⟩=some (.int .i64 ox)/\w8.cell? ⟨p6,1,none⟩=some (.int .i64 oa):=⟨(η (a:=⟨bb,1,none⟩) nA).trans DW.1,(η (a:=⟨p6,0,none⟩) l_).trans DW.2.1,(η (a:=⟨p6,1,none⟩) l_).trans DW.2.2⟩;have DY:=I ((Z Cb).blk nA);have zo:=I ((Z Qv).blk l_);have oJ:=I (aI (Z Kz) (λg hg=>lA.o g (ε hg)));have gP:=I (hR _ _ hK);have oL:=I sk;clear hK lA hR sk hop nA l_)
        |(go_at_call 24;refine(Z gP).mono ?_;rintro ev w9⟨rfl,S9,oD⟩;have nA:=oD.s bb 51 (by simp) (Z DY);have l_:=oD.o p6 (δ rfl);have s9:w9.cell? ⟨bb,1,none⟩=some (.int .i64 ak)/\w9.cell? ⟨p6,0,none⟩=some (.int .i64 ox)/\w9.cell? ⟨p6,1,none⟩=some (.int .i64 oa):=⟨(η (a:=⟨bb,1,none⟩) nA).trans s8.1,(η (a:=⟨p6,0,none⟩) l_).trans s8.2.1,(η (a:=⟨p6,1,none⟩) l_).trans s8.2.2⟩;have DU:=I ((Z DY).blk nA);have sq:=I ((Z zo).blk l_);have kU:=I (aI (Z oJ) (λg hg=>oD.o g (ε hg)));have jE:=I ((Z oL).1 _ ((Z Le).below ((Z oz) _ _ _ S9)));have Qw:=I ((dG iy _).less S9 (λj E=>ε E));clear S9 oD nA l_)
        |(go_at_call 16;refine(Z jE).mono ?_;rintro ev jD⟨rfl,iv⟩;have Iq:jD.cell? ⟨bb,1,none⟩=some (.int .i64 ak)/\jD.cell? ⟨p6,0,none⟩=some (.int .i64 ox)/\jD.cell? ⟨p6,1,none⟩=some (.int .i64 oa):=⟨(iv.cell (p:=⟨bb,1,none⟩) (Z DU).lt).trans s9.1,(iv.cell (p:=⟨p6,0,none⟩) (Z sq).lt).trans s9.2.1,(iv.cell (p:=⟨p6,1,none⟩) (Z sq).lt).trans s9.2.2⟩)))
       all_goals
        have iI:=I (aN (Z kU) iv);have lj:=I ((dG iy _).b (Z Qw) iv);clear gL Kz Cb Qv DW s8 s9 Iq DY zo DU sq gP oL jE oJ kU Qw iv a1 QZ OT;go_wp2_with fail;obtain⟨k5,L5,p2,p4,c2,c4,ik,il,mP,sW,eR,y2,y4,nk⟩:=jV (Z lj) (by omega);go_region_held3 (λw'=>w'.cell? ⟨p.aK,2,none⟩=some (.slice p2 k5 c2)/\w'.cell? ⟨p.aK,4,none⟩=some (.slice p4 L5.length c4)) ((first|(go_keep;done)|assumption)) ((first
         |(go_at_call 18;refine(Z ik).mono ?_;rintro ev Oj⟨rfl,rfl⟩)
         |(go_at_call 17;refine(Z il).mono ?_;rintro ev wG⟨p7,c7,rfl,oB,jq⟩;have tv:=(Z eR) wG jq;have im:=I (eC oB (aN (Z mP) jq) rfl (Z nk));have fE:=I jq;clear oB jq)
         |(go_at_call 32;refine(Z im).mono ?_;rintro ev wH⟨rfl,kM⟩;have tx:=(Z eR) wH (bW (Z fE) kM))))
        all_goals
         have kN:=bW (bW (dw jD) (Z fE)) kM;have sZ:=I ((dG iy _).b (Z lj) kN);have oC:=I (aN (Z iI) kN);clear ik il mP sW eR y2 y4 nk tv tx im fE kM kN lj iI;go_wp2_with fail;go_roundw;case rel=>exact⟨j+1,kk,lo,po,cp,rfl,by go_num,by omega,by omega,by first|exact Z gM|simp[Z gM],by first|exact oC|(rw[dP];exact oC),GH,sZ⟩
         case measure=>simp[intOf];omega
    |false =>
     cases hG3:(s.toList==[114,101,97,100,121])with
     |true =>
      as_aux_lemma =>
      have gL:=I (N_ iy (Z S5) (by omega) an (Z HWN));unfold A2 at gL;clear a1 a2 a4 a5;go_wp2_with fail;refine(Z gL).mono ?_;rintro ev w6⟨v1,v2,ab9,rfl,⟨⟨oN,oA⟩,gt,er,r,rfl,rfl,sk,hw2⟩,hop,hK,lA,hR⟩;have F7:=χ (γ w6.heap.size w6) (cB oN oA);have K7:=hop.more hK F7 (ζ _) (bB _ _ _);have oK:=I (Mg.Bx.new w6 oN oA);have nH:=I (aN (aI (Z R5) (λg hg=>lA.o g hg)) F7);have uJ:=lA.s bb 51 (by simp) (Z T5);have FB:=F7.block bb (ι (Z T5).lt lA.z);have Qs:=I ((Z Bt) _ (FB.trans uJ));have gP:=I (hR _ _ K7);have oL:=I sk;have Tx:Hid (∀o∈lo++[(oN,oA)],W2 o.1 o.2):=λo ho=>by
       rcases aC.1 ho with ho|ho
       ·exact(Z GH) o ho
       ·simp only[aw]at ho;rw[ho];exact hw2
      clear gL F7 K7 hK lA hR sk hw2 uJ FB R5 S5 T5 Bt a3 hop;unfold bz at*;simp only at*;go_upto_region 39 with(fail);generalize w6.alloc (cB oN oA)=W7 at*;generalize w6.heap.size=p7 at*;obtain⟨a1,a2,a3⟩:=Z Qs;go_wp2_with fail;refine(Z gP).mono ?_;rintro ev w8⟨rfl,S8,lh⟩;have F9:=χ (γ w8.heap.size w8) (cB oN oA);have Qt:=I (((Z oK).blk (lh.o p7 (δ rfl))).b F9);have Qu:=I (Mg.Bx.new w8 oN oA);have kU:=I (aN (aI (Z nH) (λg hg=>lh.o g (ε hg))) F9);have S9:=I ((dG iy _).less ((dG iy _).b S8 F9) (λj E=>ε E));have jE:=I ((Z oL).1 _ ((Z Le).below ((Z oz) _ _ _ (Z S9))));clear gP S8 lh F9 oK nH Qs a1 a2 a3 oL;go_upto_region 40 with(fail);generalize w8.alloc (cB oN oA)=W9 at*;generalize w8.heap.size=p9 at*;go_wp2_with fail;refine(Z jE).mono ?_;rintro ev jD⟨rfl,iv⟩;obtain⟨y0,y1⟩:=(Z Qt).b iv;obtain⟨z0,z1⟩:=(Z Qu).b iv;simp only at y0 y1 z0 z1;have iI:=I (aN (Z kU) iv);have lj:=I ((dG iy _).b (Z S9) iv);clear jE iv Qt Qu kU S9;cases gt with
      |true =>
       have wF:=χ (γ jD.heap.size jD) (cB oN oA);have Yu:=I (aN (Z iI) wF);have Yv:=I ((dG iy _).b (Z lj) wF);have NG:=I (σ ((Z oz) _ _ _ (Z lj)).size wF.size);have jG:kk<=200:=by omega
       clear wF iI lj;go_wp2_with (at_builtin;refine Pr rfl (.tmp 240) (.tmp 242) rfl w.heap.size (.slice po kk cp) kk (flat lo) (by simp[Act.eval]) (Z Yu) (by simp[Act.eval]) (by omega) (Z NG) ?_;intro g4 Fh Xz o4 q4 hg4 kE;have Ty:=I ((dG iy _).grown (Z Yv) q4 o4 hg4);have Yw:=I o4;clear o4 q4 hg4 kE Yu Yv);clear y0 y1 z0 z1 NG;obtain⟨k5,L5,p2,p4,c2,c4,ik,il,mP,sW,eR,y2,y4,nk⟩:=jV (Z Ty) (by omega);go_upto_region 50 with(fail);go_region_held3 (λw'=>w'.cell? ⟨p.aK,2,none⟩=some (.slice p2 k5 c2)/\w'.cell? ⟨p.aK,4,none⟩=some (.slice p4 L5.length c4)) ((first|(go_keep;done)|assumption)) ((first
        |(go_at_call 18;refine(Z ik).mono ?_;rintro ev Oj⟨rfl,rfl⟩)
        |(go_at_call 17;refine(Z il).mono ?_;rintro ev wG⟨p7,c7,rfl,oB,jq⟩;have tv:=(Z eR) wG jq;have im:=I (eC oB (aN (Z mP) jq) rfl (Z nk));have fE:=I jq;clear oB jq)
        |(go_at_call 32;refine(Z im).mono ?_;rintro ev wH⟨rfl,kM⟩;have tx:=(Z eR) wH (bW (Z fE) kM))))
       all_goals
        have kN:=bW (bW (dw Xz) (Z fE)) kM;have sZ:=I ((dG iy _).b (Z Ty) kN);have oC:=I (aN (Z Yw) kN);clear ik il mP sW eR y2 y4 nk tv tx im fE kM kN Ty Yw;go_wp2_with fail;go_roundw;case rel=>exact⟨j+1,kk+1,lo++[(oN,oA)],some ⟨g4,0,none⟩,Fh,rfl,by go_num,by omega,by omega,by first|exact Z gM|simp[Z gM],by first|exact oC|(rw[dP];exact oC),Tx,sZ⟩
        case measure=>simp[intOf];omega
      |false =>
       obtain⟨k5,L5,p2,p4,c2,c4,ik,il,mP,sW,eR,y2,y4,nk⟩:=jV (Z lj) (by omega);go_upto_region 50 with(fail);go_region_held3 (λw'=>w'.cell? ⟨p.aK,2,none⟩=some (.slice p2 k5 c2)/\w'.cell? ⟨p.aK,4,none⟩=some (.slice p4 L5.length c4)) ((first|(go_keep;done)|assumption)) ((first
        |(go_at_call 18;refine(Z ik).mono ?_;rintro ev Oj⟨rfl,rfl⟩)
        |(go_at_call 17;refine(Z il).mono ?_;rintro ev wG⟨p7,c7,rfl,oB,jq⟩;have tv:=(Z eR) wG jq;have im:=I (eC oB (aN (Z mP) jq) rfl (Z nk));have fE:=I jq;clear oB jq)
        |(go_at_call 32;refine(Z im).mono ?_;rintro ev wH⟨rfl,kM⟩;have tx:=(Z eR) wH (bW (Z fE) kM))))
       all_goals
        have kN:=bW (bW (dw jD) (Z fE)) kM;have sZ:=I ((dG iy _).b (Z lj) kN);have oC:=I (aN (Z iI) kN);clear ik il mP sW eR y2 y4 nk tv tx im fE kM kN lj iI;go_wp2_with fail;go_roundw;case rel=>exact⟨j+1,kk,lo,po,cp,rfl,by go_num,by omega,by omega,by first|exact Z gM|simp[Z gM],by first|exact oC|(rw[dP];exact oC),GH,sZ⟩
        case measure=>simp[intOf];omega
     |false =>
      cases hG4:(s.toList==[99,97,110,99,101,108])with
      |true =>
       as_aux_lemma =>
       have gL:=I (Ku iy ((dG iy _).b (Z S5) (dw W5)) (by omega) an (Z HWN));unfold A2 at gL;have Kz:=I (aN (Z R5) (dw W5));have Cb:=I ((Z T5).b (dw W5));have s5d:W5.drew.cell? ⟨bb,3,none⟩=some (.int .i64 an):=a3;clear a1 a2 a4 a5 R5 S5 T5 Bt;go_upto_region 45 with(fail);go_region_held3 (λw'=>w'.cell? ⟨bb,3,none⟩=some (.int .i64 an)) ((first|(go_keep;done)|assumption)) ((first
        |(go_at_call 26;refine(Z gL).mono ?_;rintro ev w6⟨v1,v2,ab9,rfl,⟨r,rfl,sk⟩,hop,hK,lA,hR⟩;have nA:=lA.s bb 51 (by simp) (Z Cb);have s6:w6.cell? ⟨bb,3,none⟩=some (.int .i64 an):=(η (a:=⟨bb,3,none⟩) nA).trans s5d;have Uh:=I ((Z Cb).blk nA);have nH:=I (aI (Z Kz) (λg hg=>lA.o g hg));have gP:=I (hR _ _ hK);have oL:=I sk;clear hK lA hR sk hop nA)
        |(go_at_call 27;refine(Z gP).mono ?_;rintro ev w8⟨rfl,S8,lh⟩;have nA:=lh.s bb 51 (by simp) (Z Uh);have s8:w8.cell? ⟨bb,3,none⟩=some (.int .i64 an):=(η (a:=⟨bb,3,none⟩) nA).trans s6;have DY:=I ((Z Uh).blk nA);have kU:=I (aI (Z nH) (λg hg=>lh.o g hg));have S9:=I S8;have jE:=I ((Z oL).1 _ ((Z Le).below ((Z oz) _ _ _ S8)));clear S8 lh nA)
        |(go_at_call 16;refine(Z jE).mono ?_;rintro ev jD⟨rfl,iv⟩;have Iq:jD.cell? ⟨bb,3,none⟩=some (.int .i64 an):=(iv.cell (p:=⟨bb,3,none⟩) (Z DY).lt).trans s8)))
       all_goals
        have iI:=I (aN (Z kU) iv);have lj:=I ((dG iy _).b (Z S9) iv);clear gL Kz Cb s5d s6 s8 Iq Uh DY nH gP oL jE iv kU S9 a3;go_wp2_with fail;obtain⟨k5,L5,p2,p4,c2,c4,ik,il,mP,sW,eR,y2,y4,nk⟩:=jV (Z lj) (by omega);go_region_held3 (λw'=>w'.cell? ⟨p.aK,2,none⟩=some (.slice p2 k5 c2)/\w'.cell? ⟨p.aK,4,none⟩=some (.slice p4 L5.length c4)) ((first|(go_keep;done)|assumption)) ((first
         |(go_at_call 18;refine(Z ik).mono ?_;rintro ev Oj⟨rfl,rfl⟩)
         |(go_at_call 17;refine(Z il).mono ?_;rintro ev wG⟨p7,c7,rfl,oB,jq⟩;have tv:=(Z eR) wG jq;have im:=I (eC oB (aN (Z mP) jq) rfl (Z nk));have fE:=I jq;clear oB jq)
         |(go_at_call 32;refine(Z im).mono ?_;rintro ev wH⟨rfl,kM⟩;have tx:=(Z eR) wH (bW (Z fE) kM))))
        all_goals
         have kN:=bW (bW (dw jD) (Z fE)) kM;have sZ:=I ((dG iy _).b (Z lj) kN);have oC:=I (aN (Z iI) kN);clear ik il mP sW eR y2 y4 nk tv tx im fE kM kN lj iI;go_wp2_with fail;go_roundw;case rel=>exact⟨j+1,kk,lo,po,cp,rfl,by go_num,by omega,by omega,by first|exact Z gM|simp[Z gM],by first|exact oC|(rw[dP];exact oC),GH,sZ⟩
         case measure=>simp[intOf];omega
      |false =>
       cases hG5:(s.toList==[99,108,111,115,101])with
       |true =>
        as_aux_lemma =>
        have gL:=I (Oa iy (Z S5) (by omega));unfold A2 at gL;clear a1 a2 a3 a4 a5;go_wp2_with fail;refine(Z gL).mono ?_;rintro ev w6⟨v1,v2,ab9,rfl,⟨r,rfl,sk⟩,hop,hK,lA,hR⟩;have nH:=I (aI (Z R5) (λg hg=>lA.o g hg));have gP:=I (hR _ _ hK);have oL:=I sk;clear gL hK lA hR sk R5 S5 T5 Bt hop a0;go_wp2_with fail;refine(Z gP).mono ?_;rintro ev w8⟨rfl,S8,lh⟩;have kU:=I (aI (Z nH) (λg hg=>lh.o g hg));have S9:=I S8;have jE:=I ((Z oL).1 _ ((Z Le).below ((Z oz) _ _ _ S8)));clear gP S8 lh nH oL;go_wp2_with fail;refine(Z jE).mono ?_;rintro ev jD⟨rfl,iv⟩;have iI:=I (aN (Z kU) iv);have lj:=I ((dG iy _).b (Z S9) iv);clear jE iv kU S9;obtain⟨k5,L5,p2,p4,c2,c4,ik,il,mP,sW,eR,y2,y4,nk⟩:=jV (Z lj) (by omega);go_upto_region 50 with(fail);go_region_held3 (λw'=>w'.cell? ⟨p.aK,2,none⟩=some (.slice p2 k5 c2)/\w'.cell? ⟨p.aK,4,none⟩=some (.slice p4 L5.length c4)) ((first|(go_keep;done)|assumption)) ((first
         |(go_at_call 18;refine(Z ik).mono ?_;rintro ev Oj⟨rfl,rfl⟩)
         |(go_at_call 17;refine(Z il).mono ?_;rintro ev wG⟨p7,c7,rfl,oB,jq⟩;have tv:=(Z eR) wG jq;have im:=I (eC oB (aN (Z mP) jq) rfl (Z nk));have fE:=I jq;clear oB jq)
         |(go_at_call 32;refine(Z im).mono ?_;rintro ev wH⟨rfl,kM⟩;have tx:=(Z eR) wH (bW (Z fE) kM))))
        all_goals
         have kN:=bW (bW (dw jD) (Z fE)) kM;have sZ:=I ((dG iy _).b (Z lj) kN);have oC:=I (aN (Z iI) kN);clear ik il mP sW eR y2 y4 nk tv tx im fE kM kN lj iI;go_wp2_with fail;go_roundw;case rel=>exact⟨j+1,kk,lo,po,cp,rfl,by go_num,by omega,by omega,by first|exact Z gM|simp[Z gM],by first|exact oC|(rw[dP];exact oC),GH,sZ⟩
         case measure=>simp[intOf];omega
       |false =>
        as_aux_lemma =>
        have gL:=I (Oc iy (Z S5) (by omega) ak 0 true);unfold A2 at gL;clear a2 a3 a4 a5;go_wp2_with fail;refine(Z gL).mono ?_;rintro ev w6⟨v1,v2,ab9,rfl,⟨⟨oN,oA⟩,er,r,rfl,rfl,sk,hw2⟩,hop,hK,lA,hR⟩;have F7:=χ (γ w6.heap.size w6) (cB oN oA);have K7:=hop.more hK F7 (ζ _) (bB _ _ _);have oK:=I (Mg.Bx.new w6 oN oA);have nH:=I (aN (aI (Z R5) (λg hg=>lA.o g hg)) F7);have uJ:=lA.s bb 51 (by simp) (Z T5);have FB:=F7.block bb (ι (Z T5).lt lA.z);have Qs:=I ((Z Bt) _ (FB.trans uJ));have gP:=I (hR _ _ K7);have oL:=I sk;clear gL F7 K7 hK lA hR sk hw2 uJ FB R5 S5 T5 Bt a1 hop;unfold bz at*;simp only at*;go_upto_region 21 with(fail);generalize w6.alloc (cB oN oA)=W7 at*;generalize w6.heap.size=p7 at*;obtain⟨a1,a2,a3⟩:=Z Qs;go_wp2_with fail;refine(Z gP).mono ?_;rintro ev w8⟨rfl,S8,lh⟩;have F9:=χ (γ w8.heap.size w8) (cB oN oA);have Qt:=I (((Z oK).blk (lh.o p7 (δ rfl))).b F9);have Qu:=I (Mg.Bx.new w8 oN oA);have kU:=I (aN (aI (Z nH) (λg hg=>lh.o g (ε hg))) F9);have S9:=I ((dG iy _).less ((dG iy _).b S8 F9) (λj E=>ε E));have jE:=I ((Z oL).1 _ ((Z Le).below ((Z oz) _ _ _ (Z S9))));clear gP S8 lh F9 oK nH Qs a1 a2 a3 oL;go_upto_region 22 with(fail);generalize w8.alloc (cB oN oA)=W9 at*;generalize w8.heap.size=p9 at*;go_wp2_with fail;refine(Z jE).mono ?_;rintro ev jD⟨rfl,iv⟩;obtain⟨y0,y1⟩:=(Z Qt).b iv;obtain⟨z0,z1⟩:=(Z Qu).b iv;simp only at y0 y1 z0 z1;have iI:=I (aN (Z kU) iv);have lj:=I ((dG iy _).b (Z S9) iv);clear jE iv Qt Qu kU S9;obtain⟨k5,L5,p2,p4,c2,c4,ik,il,mP,sW,eR,y2,y4,nk⟩:=jV (Z lj) (by omega);go_upto_region 50 with(fail);go_region_held3 (λw'=>w'.cell? ⟨p.aK,2,none⟩=some (.slice p2 k5 c2)/\w'.cell? ⟨p.aK,4,none⟩=some (.slice p4 L5.length c4)) ((first|(go_keep;done)|assumption)) ((first
         |(go_at_call 18;refine(Z ik).mono ?_;rintro ev Oj⟨rfl,rfl⟩)
         |(go_at_call 17;refine(Z il).mono ?_;rintro ev wG⟨p7,c7,rfl,oB,jq⟩;have tv:=(Z eR) wG jq;have im:=I (eC oB (aN (Z mP) jq) rfl (Z nk));have fE:=I jq;clear oB jq)
         |(go_at_call 32;refine(Z im).mono ?_;rintro ev wH⟨rfl,kM⟩;have tx:=(Z eR) wH (bW (Z fE) kM))))
        all_goals
         have kN:=bW (bW (dw jD) (Z fE)) kM;have sZ:=I ((dG iy _).b (Z lj) kN);have oC:=I (aN (Z iI) kN);clear ik il mP sW eR y2 y4 nk tv tx im fE kM kN lj iI;go_wp2_with fail;go_roundw;case rel=>exact⟨j+1,kk,lo,po,cp,rfl,by go_num,by omega,by omega,by first|exact Z gM|simp[Z gM],by first|exact oC|(rw[dP];exact oC),GH,sZ⟩
         case measure=>simp[intOf];omega
  ·skip
   as_aux_lemma =>
   obtain rfl:j=ln:=by omega
   have kn:¬(j:Int)<j:=by omega
   have HAD:=I (Gd (Z HS) (by omega));have HBL:=I ((Z oz) _ _ _ (Z HS));clear HS HR GH;go_wp2_with fail;refine(Z HAD).mono ?_;rintro ev w6⟨rfl,b6⟩;go_wp2;go_ret;exact⟨rfl,bW (Z HBL) b6⟩
end Pl
end Go.Proofs.YtcbmfakjfoggaaaGreatDoor
