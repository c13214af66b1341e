/- H16 -/
import Derived.Test.YtcbmfakjfoggaaaGreatDoorA0
import Derived.Test.YtcbmfakjfoggaaaGreatDoorH13
set_option maxHeartbeats 0
set_option maxRecDepth 100000
namespace Go.Proofs.YtcbmfakjfoggaaaGreatDoor
open Go.Maps _root_.Go.Proofs.Tryz Go.RowKit
namespace Zn
open Fr Bd
def NAt (w w':World)(z n:Nat):Prop:=∃g cp,w'.cell? ⟨z,5,none⟩=some (.slice (some ⟨g,0,none⟩) n cp)/\w.heap.size<=g
theorem JS (c:Cf)(p q:Option Addr)(pc qc:Nat)(w:World)(h:At w c p q)(hn:1<=c.n)(MH:c.n<=4)(hm:c.m=c.n)(hM:∀i,i<c.m->c.M i=c.n)(hP:∀i,i<c.n->1<=c.P i/\c.P i<=256)(hne:∀i,i<c.n->iC (c.ab8 i) c.n 1001≠[]):
  Calls prog 69 #[sK c p pc q qc] w λev w'=>∃z nb,ev=.returned (ptr z)/\RZ w' z c.mn c.lw c.hi c.n nb (kR c.P) (λi=>iC (c.ab8 i) c.n 1001)/\Below w.heap.size w w'/\NAt w w' z c.n/\w.heap.size<=z/\∀i,i<c.n->w.heap.size<=nb i:=by
 have BX:=ji w c p q pc qc 122;have F1:=χ (γ w.heap.size w) (.cells #[.slice p c.n pc,.slice q c.m qc,.int .i64 c.mn,.int .i64 c.lw,.int .i64 c.hi] 122);have A1:=h.b F1;have Dg:=I (λw1 x (h:At w1 c p q) (hx:x<c.n)=>Mh c p q pc qc x w1 h (by omega) (by omega) (by rw[hM x (by omega)];exact ζ _));clear h;unfold sK at*;obtain⟨n,P,m,M,ab8,mn,lw,hi⟩:=c;simp only at*;obtain rfl:n=m:=hm.symm;obtain⟨i0,eO,hz0,hz1,hz2⟩:=aY ME;have HI:=I eO;have HZ:=I hz0;have eI:=I hz1;have eJ:=I hz2;obtain⟨i1,Am,Ao,wK,uV⟩:=aY Ak;have HJ:=I Am;have HY:=I Ao;have Cq:=I wK;have KL:=I uV;clear eO hz0 hz1 hz2 Am Ao wK uV;have s1:(w.alloc (.cells #[.slice p n pc,.slice q n qc,.int .i64 mn,.int .i64 lw,.int .i64 hi] 122)).heap.size=w.heap.size+1:=by simp
 have Z0:=I (Re (w.alloc (.cells #[.slice p n pc,.slice q n qc,.int .i64 mn,.int .i64 lw,.int .i64 hi] 122)) (.slice p n pc) (.slice q n qc) mn lw hi (w.heap.size+1) s1);have F01:=I (χ (γ _ (w.alloc (.cells #[.slice p n pc,.slice q n qc,.int .i64 mn,.int .i64 lw,.int .i64 hi] 122))) (.cells #[.slice p n pc,.slice q n qc,.int .i64 mn,.int .i64 lw,.int .i64 hi,.slice none 0 0,.slice none 0 0] 252));have s0:((w.alloc (.cells #[.slice p n pc,.slice q n qc,.int .i64 mn,.int .i64 lw,.int .i64 hi] 122)).alloc (.cells #[.slice p n pc,.slice q n qc,.int .i64 mn,.int .i64 lw,.int .i64 hi,.slice none 0 0,.slice none 0 0] 252)).heap.size=w.heap.size+2:=by simp
 have b0:=BX.c0;have b1:=BX.c1;have b2:=BX.c2;have b3:=BX.c3;have b4:=BX.c4;simp only at b0 b1 b2 b3 b4;clear BX;have hq:∀x:Nat,ptr x=.pointer (some ⟨x,0,none⟩):=λ_=>rfl;go_enter func69,ntmps69;go_wp2_with fail;generalize((w.alloc (.cells #[.slice p n pc,.slice q n qc,.int .i64 mn,.int .i64 lw,.int .i64 hi] 122)).alloc (.cells #[.slice p n pc,.slice q n qc,.int .i64 mn,.int .i64 lw,.int .i64 hi,.slice none 0 0,.slice none 0 0] 252))=W0 at*;generalize w.alloc (.cells #[.slice p n pc,.slice q n qc,.int .i64 mn,.int .i64 lw,.int .i64 hi] 122)=W1 at*;have KB:=I (λwr (D:Kept (w.heap.size+1) (w.heap.size+1) W0 wr)=>(Z F01).trans (D.below (N:=W1.heap.size) (by omega) (by omega) (by omega)));have F1:=I F1;have A1:=I A1;go_loopw [4] (λa wr=>∃(i:Nat) (pn pf:Option Addr) (cn cf:Nat) (rows:List Value) (nb:Nat->Nat),a=.int .i64 i/\i<=n/\Hid (ZB wr (w.heap.size+1) mn lw hi (.slice pn i cn) (.slice pf i cf))/\Hid (wr.ownsRow W0.heap.size 253 1 (.slice pn i cn) i (kW i nb))/\Hid (wr.ownsRow W0.heap.size 38 1 (.slice pf i cf) i rows)/\Hid (∀j,j<i->∃r,rows[j]?=some r/\wr.ownsRow 0 3 1 r (iC (ab8 j) n 1001).length (dX (iC (ab8 j) n 1001)))/\Hid (∀j,j<i->RB wr (nb j) (kR P j).N (kR P j).aca (kR P j).T/\W0.heap.size<=nb j/\∀j',j'<j->nb j'<nb j)/\Hid (Kept (w.heap.size+1) (w.heap.size+1) W0 wr)) (λa _=>n-(intOf a).toNat)
 case atStart=>exact⟨0,none,none,0,0,[],λ_=>0,rfl,Γ _,Z0,Ξ _ _ _ _,Ξ _ _ _ _,λj E=>by omega,λj E=>by omega,Kept.refl _ _ _⟩
 case round =>
  obtain⟨i,pn,pf,cn,cf,rows,nb,rfl,hi',qu,hU,hV,hR,hB,hK⟩:=hrel;have oG:(0:Int)<=i:=by omega
  have HB:=(Z KB) _ (Z hK);have rf:w.heap.size<W1.heap.size:=by omega
  have d0:=(HB.cell (p:=⟨w.heap.size,0,none⟩) rf).trans b0;have d1:=(HB.cell (p:=⟨w.heap.size,1,none⟩) rf).trans b1;have d2:=(HB.cell (p:=⟨w.heap.size,2,none⟩) rf).trans b2;have d3:=(HB.cell (p:=⟨w.heap.size,3,none⟩) rf).trans b3;have d4:=(HB.cell (p:=⟨w.heap.size,4,none⟩) rf).trans b4;have z5:=(Z qu).c5;have z6:=(Z qu).c6;have Rk:=(Z qu).ff 5;have Di:=(Z qu).ff 6;by_cases eY:i<n
  ·have hlt:(i:Int)<n:=by omega
   obtain⟨blk,off,rfl,hbl,K⟩:=((Z A1).ps.b HB) i eY;simp only at K;have Pd:=hP i eY;have Rj:=I (λw1=>u_ (P i) w1 Pd.1 Pd.2);have hsz:=(Z hK).size;have tk:True:=trivial;have MI:w.heap.size+1<W0.heap.size:=by omega
   have NT:=I Pd;clear d0 d1 d2 d3 d4 Pd;have d0:=(HB.cell (p:=⟨w.heap.size,0,none⟩) rf).trans b0;clear HB;go_wp2_with fail;go_region_law (first
    |(have _t:=tk;go_simp;go_at_call 146;refine((Z Rj) _).mono ?_;rintro ev w2⟨b,rfl,R2,hb2,q2⟩;rw[hq b];have C2:Below wr.heap.size wr w2:=bd q2;have U2:=aN (Z hU) C2;have Z2:=(Z qu).b C2;have z25:=Z2.c5;have z2a:=(Z2.b (χ (γ _ _) (.cells #[.pointer (some ⟨b,0,none⟩)] 253))).c5;clear tk)
    |(refine bX _ rfl (.tmp 19) (.tmp 26) 250 rfl W0.heap.size 253 i0 (.pointer none) 1 8 underlying250 (Z HI) (Z HZ) (Z eI) (Z eJ) rfl (by decide) (.slice pn i cn) i (kW i nb) (by simp[Act.eval]) (U2.alloc _) ⟨w2.heap.size,0,none⟩ 1 1 [.pointer (some ⟨b,0,none⟩)] (by simp[Act.eval]) rfl (by intro j u E;match j,E with|0,E=>simp at E;subst E;simp[Addr.add]) (by intro u hu;simp at hu;subst hu;rfl) (by omega) (by unfold maxLen;omega) (by omega) (by have:=C2.size;simp;omega) _ rfl ?_;intro g4 c4 w4 o4 q4 _ _;have B4:Below W0.heap.size wr w4:=((C2.mono hsz).alloc (σ hsz C2.size) _).grown q4 (by have:=C2.size;simp;omega) (bL U2);have Z4:=(Z qu).bn B4 MI;have sQ:=Z4.c5;have ue:=Z4.ff 5))
   all_goals
    have ZO:=Z4.tg;have ks:=bA (g:=w.heap.size+1) w4 5 (.slice (some ⟨g4,0,none⟩) (i+1) c4);have sL:∀(e sz:Nat) (v:Value) (m:Nat) (bs:Nat) (xs':List Value),e≠253->e≠252->wr.ownsRow bs e sz v m xs'->(w4.setCell ⟨w.heap.size+1,5,none⟩ (.slice (some ⟨g4,0,none⟩) (i+1) c4)).ownsRow bs e sz v m xs':=λe sz v m bs xs' G O h =>
     fM (((aN h C2).alloc _).kept q4 (jr (aN h C2) U2 G)) ks ZO O.symm
    have EN:∀(c':Nat) (d:Nd),RB w2 c' d.N d.aca d.T->RB (w4.setCell ⟨w.heap.size+1,5,none⟩ (.slice (some ⟨g4,0,none⟩) (i+1) c4)) c' d.N d.aca d.T:=λc' d h=>by
     have G:=xK (U2.alloc _) q4 (by decide) (by decide) (h.a _);exact G.keep ks (G.tg.ne ZO (by decide)) ZO (by decide)
    have ZV:=I (Z4.p5 (.slice (some ⟨g4,0,none⟩) (i+1) c4));have UV:Hid ((w4.setCell ⟨w.heap.size+1,5,none⟩ (.slice (some ⟨g4,0,none⟩) (i+1) c4)).ownsRow W0.heap.size 253 1 (.slice (some ⟨g4,0,none⟩) (i+1) c4) (i+1) (kW (i+1) (up nb i b))):=by
     show World.ownsRow _ _ _ _ _ _ _;rw[tX];exact fp o4 MI _ _
    have VV:=I (sL 38 1 _ _ _ _ (by decide) (by decide) (Z hV));have RV:Hid (∀j,j<i->∃r,rows[j]?=some r/\(w4.setCell ⟨w.heap.size+1,5,none⟩ (.slice (some ⟨g4,0,none⟩) (i+1) c4)).ownsRow 0 3 1 r (iC (ab8 j) n 1001).length (dX (iC (ab8 j) n 1001))):=λj E=>by
     obtain⟨r,e1,e2⟩:=(Z hR) j E;exact⟨r,e1,sL 3 1 _ _ _ _ (by decide) (by decide) e2⟩
    have BV:Hid (∀j,j<i+1->RB (w4.setCell ⟨w.heap.size+1,5,none⟩ (.slice (some ⟨g4,0,none⟩) (i+1) c4)) (up nb i b j) (kR P j).N (kR P j).aca (kR P j).T/\W0.heap.size<=up nb i b j/\∀j',j'<j->up nb i b j'<up nb i b j):=λj E=>by
     rcases bC j i with h'|h'
     ·obtain⟨e1,e2,e3⟩:=(Z hB) j h';refine⟨?_,?_,λj' hj'=>?_⟩
      ·rw[fj _ _ (by omega)];exact EN _ (kR P j) (e1.b C2)
      ·rw[fj _ _ (by omega)];exact e2
      ·rw[fj _ _ (by omega),fj _ _ (by omega)];exact e3 j' hj'
     ·obtain rfl:j=i:=by omega
      refine⟨?_,?_,λj' hj'=>?_⟩
      ·rw[gJ];exact EN _ (kR P j) R2
      ·rw[gJ];exact σ hsz hb2
      ·rw[gJ,fj _ _ (by omega)];exact ι ((Z hB) j' hj').1.lt hb2
    have KV:=I ((lQ (Z hK) B4 (ζ _)).trans ks);clear sL EN o4 q4 B4 Z4 sQ ue U2 Z2 z25 z2a C2 R2 q2 ks ZO qu hU hV hR hB hK z5 z6 Rk Di d0 K;have AH:=I ((Z KB) _ (Z KV));have e0:=((Z AH).cell (p:=⟨w.heap.size,0,none⟩) rf).trans b0;have e1:=((Z AH).cell (p:=⟨w.heap.size,1,none⟩) rf).trans b1;have e2:=((Z AH).cell (p:=⟨w.heap.size,2,none⟩) rf).trans b2;have e3:=((Z AH).cell (p:=⟨w.heap.size,3,none⟩) rf).trans b3;have e4:=((Z AH).cell (p:=⟨w.heap.size,4,none⟩) rf).trans b4;have z6:=(Z ZV).c6;have Di:=(Z ZV).ff 6;have IC:=(Z KV).size;have AV:=I ((Z A1).b (Z AH));have KJ:True:=trivial;generalize w4.setCell ⟨w.heap.size+1,5,none⟩ (.slice (some ⟨g4,0,none⟩) (i+1) c4)=ab7 at*;go_wp2_with fail;go_region_law (first
     |(have _t:=KJ;go_simp;go_at_call 147;refine((Z Dg) _ i ((Z AV).b (dw ab7)) eY).mono ?_;rintro ev w5⟨v5,rfl,o5,_,q5⟩;obtain⟨g5,c5,hv5⟩:=jz o5 (aU.2 (hne i eY));subst hv5;have C5:Below ab7.heap.size ab7 w5:=bd q5;have V5:=aN (Z VV) C5;have Z5:=(Z ZV).b C5;have z65:=Z5.c6;have z6a:=(Z5.b (χ (γ _ _) (.cells #[.slice (some ⟨g5,0,none⟩) (iC (ab8 i) n 1001).length c5] 38))).c6;clear KJ)
     |(refine bX _ rfl (.tmp 34) (.tmp 38) 118 rfl W0.heap.size 38 i1 (.slice none 0 0) 1 24 underlying118 (Z HJ) (Z HY) (Z Cq) (Z KL) rfl (by decide) (.slice pf i cf) i rows (by simp[Act.eval]) (V5.alloc _) ⟨w5.heap.size,0,none⟩ 1 1 [.slice (some ⟨g5,0,none⟩) (iC (ab8 i) n 1001).length c5] (by simp[Act.eval]) rfl (by intro j u E;match j,E with|0,E=>simp at E;subst E;simp[Addr.add]) (by intro u hu;simp at hu;subst hu;rfl) (by omega) (by unfold maxLen;omega) (by omega) (by have:=C5.size;simp;omega) _ rfl ?_;intro g6 c6 w6 o6 q6 _ _;have B6:Below W0.heap.size ab7 w6:=((C5.mono IC).alloc (σ IC C5.size) _).grown q6 (by have:=C5.size;simp;omega) (bL V5);have Z6:=(Z ZV).bn B6 MI;have ID:=Z6.c6;have Rl:=Z6.ff 6))
    all_goals
     have zw:=Z6.tg;have ks:=bA (g:=w.heap.size+1) w6 6 (.slice (some ⟨g6,0,none⟩) (i+1) c6);have sL:∀(e sz:Nat) (v:Value) (m:Nat) (bs:Nat) (xs':List Value),e≠38->e≠252->w5.ownsRow bs e sz v m xs'->(w6.setCell ⟨w.heap.size+1,6,none⟩ (.slice (some ⟨g6,0,none⟩) (i+1) c6)).ownsRow bs e sz v m xs':=λe sz v m bs xs' G O h =>
      fM ((h.alloc _).kept q6 (jr h V5 G)) ks zw O.symm
     have EN:∀(c':Nat) (d:Nd),RB ab7 c' d.N d.aca d.T->RB (w6.setCell ⟨w.heap.size+1,6,none⟩ (.slice (some ⟨g6,0,none⟩) (i+1) c6)) c' d.N d.aca d.T:=λc' d h=>by
      have G:=xK (V5.alloc _) q6 (by decide) (by decide) ((h.b C5).a _);exact G.keep ks (G.tg.ne zw (by decide)) zw (by decide)
     have zv:rows.length=i:=by have:=V5.1;omega
     have ZF:=I (Z6.p6 (.slice (some ⟨g6,0,none⟩) (i+1) c6));have UF:=I (sL 253 1 _ _ _ _ (by decide) (by decide) (aN (Z UV) C5));have VF:=I (fp o6 MI 6 (.slice (some ⟨g6,0,none⟩) (i+1) c6));have RF:Hid (∀j,j<i+1->∃r,(rows++[.slice (some ⟨g5,0,none⟩) (iC (ab8 i) n 1001).length c5])[j]?=some r/\(w6.setCell ⟨w.heap.size+1,6,none⟩ (.slice (some ⟨g6,0,none⟩) (i+1) c6)).ownsRow 0 3 1 r (iC (ab8 j) n 1001).length (dX (iC (ab8 j) n 1001))):=λj E=>by
      rcases bC j i with h'|h'
      ·obtain⟨r,e1,e2⟩:=(Z RV) j h';exact⟨r,by rw[ar (by omega)];exact e1,sL 3 1 _ _ _ _ (by decide) (by decide) (aN e2 C5)⟩
      ·obtain rfl:j=i:=by omega
       exact⟨_,by rw[aq (by omega)];simp[zv],sL 3 1 _ _ _ _ (by decide) (by decide) (ia o5 (Γ _))⟩
     have BF:Hid (∀j,j<i+1->RB (w6.setCell ⟨w.heap.size+1,6,none⟩ (.slice (some ⟨g6,0,none⟩) (i+1) c6)) (up nb i b j) (kR P j).N (kR P j).aca (kR P j).T/\W0.heap.size<=up nb i b j/\∀j',j'<j->up nb i b j'<up nb i b j):=λj E=>by
      obtain⟨e1,e2,e3⟩:=(Z BV) j E;exact⟨EN _ (kR P j) e1,e2,e3⟩
     have KF:=I ((lQ (Z KV) B6 (ζ _)).trans ks);clear sL EN o6 q6 B6 Z6 ID Rl V5 Z5 z65 z6a C5 o5 q5 ks zw UV VV RV BV KV ZV e0 e1 e2 e3 e4 z6 Di AV AH;go_wp2;go_roundw;case rel=>exact⟨i+1,some ⟨g4,0,none⟩,some ⟨g6,0,none⟩,c4,c6,rows++[.slice (some ⟨g5,0,none⟩) (iC (ab8 i) n 1001).length c5],up nb i b,by go_num,by omega,ZF,UF,VF,RF,BF,KF⟩
     case measure=>simp[intOf];omega
  ·have hlt:¬(i:Int)<n:=by omega
   obtain rfl:n=i:=by omega
   obtain⟨gn,cn',Pf⟩:=jz (Z hU) (by omega);obtain⟨gf,cf',Rm⟩:=jz (Z hV) (by omega);simp only[ψ,aZ]at Pf Rm;obtain⟨rfl,rfl⟩:=Pf;obtain⟨rfl,rfl⟩:=Rm;have Xs:Hid (RZ wr (w.heap.size+1) mn lw hi n nb (kR P) (λi=>iC (ab8 i) n 1001)):=by
    refine⟨(Z qu).c2,(Z qu).c3,(Z qu).c4,⟨gn,cn,z5,ia (Z hU) (Γ _)⟩,⟨gf,cf,rows,z6,ia (Z hV) (Γ _),λj E=>?_⟩,(Z qu).tg,λj E=>((Z hB) j E).1,λj E=>vA (hP j E).1 (hP j E).2,λj j' E hj' hjj=>?_⟩
    ·obtain⟨r,e1,e2⟩:=(Z hR) j E;obtain⟨g,d,rfl⟩:=jz e2 (aU.2 (hne j E));exact⟨g,d,e1,e2⟩
    ·rcases Nat.lt_or_gt_of_ne hjj with h'|h'
     ·exact Nat.ne_of_lt (((Z hB) j' hj').2.2 j h')
     ·exact(Nat.ne_of_lt (((Z hB) j E).2.2 j' h')).symm
   have FF:=bW (Z F1) HB;have MN:∀j,j<n->w.heap.size<=nb j:=λj E=>by have:=((Z hB) j E).2.1;omega
   have NA:NAt w wr (w.heap.size+1) n:=⟨gn,cn,z5,by have:=((Z hU).lt gn rfl).1;omega⟩;clear qu hU hV hR hB hK HB;go_wp2;go_ret;first|exact⟨w.heap.size+1,nb,rfl,Z Xs,FF,NA,by omega,MN⟩|exact⟨w.heap.size+1,rfl,nb,Z Xs,FF,NA,by omega,MN⟩|exact⟨w.heap.size+1,rfl,FF,NA,by omega,nb,Z Xs,MN⟩|exact⟨w.heap.size+1,rfl,nb,Z Xs,MN,FF,NA,by omega⟩|exact⟨w.heap.size+1,rfl,⟨nb,Z Xs,FF,NA,by omega,MN⟩⟩
end Zn
end Go.Proofs.YtcbmfakjfoggaaaGreatDoor
