/- H36 -/
import Derived.Test.YtcbmfakjfoggaaaGreatDoorA0
import Derived.Test.YtcbmfakjfoggaaaGreatDoorH35
set_option maxHeartbeats 0
set_option maxRecDepth 100000
namespace Go.Proofs.YtcbmfakjfoggaaaGreatDoor
open _root_.Go.Proofs.Tryz Go.RowKit Go.Maps
namespace Pl
open Fr Bd Zn Dz Sb Mg Rd
section
variable {B:Nat}{C:Dc}{M:Mc}{aK N:Nat}{U:Nat->Prop}{S S':Ds}{R:Rs}{w w1 w':World}{x y:Int}{o:Bl}
theorem zf (h:RP B C M aK U S R w)(K:R.cl=false)(hx:0<=x/\x<S.ws.length)(hy:0<=y/\y<C.k)(hL:R.L=[])(hT:R.T.length<1000000)(hF:FA C S)(hF':FA C S')(hQ:S.ab5<=1000)(oH:∀x,x<C.k->(C.fr x).length=C.k/\∀i∈C.fr x,i<C.k){n:Nat}(vV:mV C S x y false (some n) (0,0) S'){ab9:List Bl}(hR:R.R=ab9++[o])(hKl:ab9.length<100):
  Calls prog 23 #[.pointer (some ⟨aK,0,none⟩),.int .i64 x,.int .i64 y] w λev w'=>ev=.returned (.tuple #[bz o.1 o.2,.int .i64 0])/\∃DT ie,RP B C M aK U S' {R with R:=ab9,vR:=DT,T:=R.T++[o],vT:=ie} w'/\fX C.N0 aK R {R with R:=ab9,vR:=DT,T:=R.T++[o],vT:=ie} U U w w':=by
 obtain⟨oN,oA⟩:=o;have F1:=χ (γ w.heap.size w) (cB 0 0);have R1:=cQ w;have H1:=h.b F1;have wP:=h.fresh R1.tg (ζ _);have c7:=H1.m.c7;rw[K]at c7;have c0:=H1.m.c0;have c4:=H1.m.c4;obtain⟨g0,g1⟩:=H1.way;have HW:=I (H1.worker x);have qL:=I (H1.node y);rw[aM hx]at HW;rw[aM hy]at qL;obtain⟨pl,cl,hv⟩:=aX H1.m.l;rw[hv,hL]at c4;simp only[aA]at c4;have gL:Hid (∀W,RP B C M aK U S R W->Calls prog 31 #[.pointer (some ⟨M.rd,0,none⟩),.int .i64 x,.int .i64 y,.bool false] W λev w'=>ev=.returned (.tuple #[.agg #[.int .i64 0,.int .i64 0],.int .i64 ((n:Int)+1)])/\AD C M U S' w'/\bD R6 C.N0 W w'):=λW hW=>iW hW.k hW.lo.1 hF hF' hQ oH vV;clear vV hF hF';have dn1:decide ((n:Int)+1>0)=true:=aM (by omega);have dn2:decide ((0:Int)<(n:Int)+1)=true:=aM (by omega);have hRL:R.R.length=ab9.length+1:=by rw[hR];simp
 have cZ:=I (fX.below (N:=C.N0) (aK:=aK) (R:=R) (U:=U) F1);have fk:=I R1;have dD:=I H1;have sw:=I wP;clear h F1 R1 H1 wP K hv hx hy hL;unfold bz;go_enter func23,ntmps23;go_upto_region 1 with(fail);generalize w.alloc (cB 0 0)=W at*;go_wp2_with fail;refine(Z HW).mono ?_;rintro ev w1⟨rfl,rfl⟩;go_wp2_with fail;refine(Z qL).mono ?_;rintro ev w2⟨rfl,b2⟩;have H2:=(Z dD).b b2;have e4:=(b2.cell (p:=⟨aK,4,none⟩) (Z dD).m.tg.lt).trans c4;have e0:=(b2.cell (p:=⟨aK,0,none⟩) (Z dD).m.tg.lt).trans c0;have jS:=I ((Z fk).b b2);have kg:=I ((Z sw).b b2);have eA:=I ((Z cZ).trans (fX.below b2));have iu:=I H2;have za:=I ((Z gL) w2 H2);clear HW qL dD fk sw cZ gL H2 c4 c0 c7 g0 g1 b2;go_wp2_with fail;refine(Z za).mono ?_;rintro ev w3⟨rfl,K3,C3⟩;obtain⟨H3,F3⟩:=(Z iu).dep K3 C3 (λ_ h=>ε h);obtain⟨e3,Qj⟩:=(Z iu).row F3 (Z kg);have F5:=χ (γ w3.heap.size w3) (cB 0 0);have X4:=I (cQ w3);have H5:=H3.b F5;have mU:=I (((Z jS).blk e3).b F5);have uI:=I (Qj.b F5);have mJ:=I (H3.fresh (Z X4).tg (ζ _));have iY:=I (((Z eA).trans F3).trans (fX.below F5));obtain⟨bR,cR,lU,_⟩:=H5.m.r.form (by omega);have c2:=H5.m.c2;have f2:=H5.m.fz 2;have r2:=H5.m.r;rw[lU,hRL]at c2 r2;have abn:=om r2;have sD:(flat R.R).length=(ab9.length+1)*2:=by rw[cd,hRL]
 have Kc:=cd ab9;have k0:=r2.cellAt (ab9.length*2) (by omega);have k1:=r2.cellAt (ab9.length*2+1) (by omega);rw[hR,dP,aq (by omega),Kc,Nat.sub_self]at k0;rw[hR,dP,aq (by omega),Kc,show ab9.length*2+1-ab9.length*2=1 from by omega]at k1;simp only[υ,ω]at k0 k1;have gW:=I H5;have xM:=I (show(w3.alloc (cB 0 0)).ownsRow B 34 2 (.slice (some ⟨bR,0,none⟩) (ab9.length+1) cR) (ab9.length+1) (flat (ab9++[(oN,oA)]))from by rw[<- hR];exact r2);have Xp:=I (show w.heap.size<w3.heap.size from ι (Z kg).1.lt F3.k.size);have jk:bR<(w3.alloc (cB 0 0)).heap.size:=(r2.lt bR rfl).2;have X9:bR≠w3.heap.size:=λe=>(Z mJ).2 (δ (ε (by rw[lU];show some bR=some w3.heap.size;rw[e])));have hKs:(ab9.length:Int)+1-1=(ab9.length:Int):=by omega
 have rf:IntKind.i64.wrap (((ab9.length+1:Nat):Int)-1)=(ab9.length:Int):=by rw[aB _ (by omega)];omega
 have dk1:decide ((ab9.length:Int)<0)=false:=by simp
 clear za K3 C3 H3 F3 e3 Qj F5 H5 jS kg eA iu e0 e4 lU r2 sD Kc hRL hR;go_upto_region 8 with(fail);generalize w3.alloc (cB 0 0)=W4 at*;generalize w3.heap.size=b8 at*;generalize jG:ab9.length=kk at*;go_upto_region 12 with(fail);obtain⟨u0,u1,ufz,ut⟩:=Z X4;have uf0:=ufz 0;have uf1:=ufz 1;have X_:=Z Xp;have abf:w.heap.size≠b8:=by omega
 obtain⟨x0,x1⟩:=aW u0 u1 (.int .i64 oN) (.int .i64 oA);have H6:=I (((Z gW).box (Z mJ) 0 (.int .i64 oN)).box ((Z mJ).set _ _) 1 (.int .i64 oA));have Dh:=I (((Z iY).box (ck X_) 0 (.int .i64 oN)).box (ck X_) 1 (.int .i64 oA));have hblk:∀j,j≠b8->((W4.setCell ⟨b8,0,none⟩ (.int .i64 oN)).setCell ⟨b8,1,none⟩ (.int .i64 oA)).heap[j]?=W4.heap[j]?:=λj E=>(μ _ _ _ _ E).trans (μ _ _ _ _ E);have yv:=I ((Z mU).blk (hblk _ abf));have La:=I (((Z uI).set ⟨b8,0,none⟩ (.int .i64 oN)).set ⟨b8,1,none⟩ (.int .i64 oA));have Ya:=I (((Z mJ).set ⟨b8,0,none⟩ (.int .i64 oN)).set ⟨b8,1,none⟩ (.int .i64 oA));have d2:=(η (a:=⟨aK,2,none⟩) (hblk aK (λe=>(Z gW).m.tg.ne (Z mJ).1 (by decide) e))).trans c2;have hrow:=aI (Z xM) (w':=(W4.setCell ⟨b8,0,none⟩ (.int .i64 oN)).setCell ⟨b8,1,none⟩ (.int .i64 oA)) (λg hg=>hblk g (λe=>X9 ((show bR=g by simpa[Value.ownBlock]using hg).trans e)));have Kf:=I x0;have Kg:=I x1;have Yb:=I hrow;clear X4 ufz ut gW iY mJ mU uI hblk hrow xM x0 x1;go_upto_region 13 with(fail);generalize(W4.setCell ⟨b8,0,none⟩ (.int .i64 oN)).setCell ⟨b8,1,none⟩ (.int .i64 oA)=W6 at*;have wQ:=I (gC (ab9:=ab9) (M:=[]) (t:=(oN,oA)) (b:=bR) (c:=cR) (w:=W6) (by rw[jG];exact Z Yb) (by simp only[aA];omega));simp only[jG,aA,dF,bj]at wQ;clear Yb k0 k1 u0 u1 uf0 uf1 jk X9;go_wp2_with fail;refine(Z wQ).mono ?_;rintro ev w7⟨v7,rfl,o7,b7⟩;obtain⟨p7,k7,rfl⟩:=aX o7;have o7':w7.ownsRow W6.heap.size 34 2 (.slice p7 kk k7) ab9.length (flat ab9):=by rw[jG];exact o7
 obtain⟨H8,F8⟩:=(Z H6).aa5 b7 o7';obtain⟨e8,BL⟩:=(Z H6).row F8 (Z Ya);obtain⟨e9,Qk⟩:=(Z H6).row F8 (Z La);have z2:=(b7.cell (p:=⟨aK,2,none⟩) (Z H6).m.tg.lt).trans d2;have zf2:=(b7.frozen (p:=⟨aK,2,none⟩) (Z H6).m.tg.lt).trans ((Z H6).m.fz 2);have x0:=(η (a:=⟨b8,0,none⟩) e8).trans (Z Kf);have x1:=(η (a:=⟨b8,1,none⟩) e8).trans (Z Kg);have mU:=I ((Z yv).blk e9);have uI:=I Qk;have mJ:=I BL;have iY:=I ((Z Dh).trans F8);have c3:=H8.m.c3;have f3:=H8.m.fz 3;have r3:=H8.m.t;simp only at c3 r3;obtain⟨pT,cT,pM⟩:=aX r3;have qx:=I pM;rw[pM]at c3 r3;have gW:=I H8;generalize Tl:R.T.length=nT at*;clear wQ o7 o7' H8 F8 e8 BL e9 Qk pM H6 Dh yv La Ya Kf Kg d2 b7;go_upto_region 14 with(fail);generalize w7.setCell ⟨aK,2,none⟩ (.slice p7 kk k7)=W5 at*;have T5:=(Z gW).m.tg;have BA:Below W5.heap.size W5 (W5.alloc (cB oN oA)).drew:=(χ (γ _ _) _).drew;have iE:=aN r3 BA;have ir:=T5.b BA;have hNb:B<=(W5.alloc (cB oN oA)).drew.heap.size:=σ (Z gW).lo.2 BA.size;have j9:=(BA.cell (p:=⟨aK,3,none⟩) T5.lt).trans c3;have j_:=(BA.frozen (p:=⟨aK,3,none⟩) T5.lt).trans f3;go_region_law (refine lT rfl (.tmp 91) (.tmp 93) rfl B (.slice pT nT cT) nT (flat R.T) (by simp[Act.eval]) iE (by simp[Act.eval]) (by omega) hNb ?_;intro g4 c4 w6 o6 q6 hg4 kE;have e6:=q6.block aK ir.lt (d_ iE ir (by decide));have ID:w6.cell? ⟨aK,3,none⟩=some (.slice pT nT cT):=(η (a:=⟨aK,3,none⟩) e6).trans j9;have Di:w6.frozen? ⟨aK,3,none⟩=false:=(π (a:=⟨aK,3,none⟩) e6).trans j_);all_goals
  have yR:(W5.alloc (cB oN oA)).drew.grownBy w6 R.vT.ownBlock:=by rw[Z qx];exact q6
  have qs:R.vT.ownBlock=some g4\/g4=(W5.alloc (cB oN oA)).drew.heap.size:=by rw[Z qx];exact hg4
  obtain⟨H7,F7⟩:=(Z gW).Qe BA Tl o6 yR qs;obtain⟨e8,BL⟩:=(Z gW).row F7 (Z mJ);obtain⟨e9,Qk⟩:=(Z gW).row F7 (Z uI);have z0:=(η (a:=⟨b8,0,none⟩) e8).trans x0;have z1:=(η (a:=⟨b8,1,none⟩) e8).trans x1;have nH:=I ((Z mU).blk e9);have oK:=I Qk;have zC:=I H7;have zB:=I ((Z iY).trans F7);clear yR qs H7 F7 e8 BL e9 Qk o6 q6 hg4 kE e6 j9 j_ iE BA ir hNb x0 x1 gW iY mU uI mJ c3 f3 r3 T5 qx;go_upto_region 16 with(fail);generalize w6.setCell ⟨aK,3,none⟩ (.slice (some ⟨g4,0,none⟩) (nT+1) c4)=W7 at*;obtain⟨r0,r1,bQ,rt⟩:=Z nH;have f0:=bQ 0;have f1:=bQ 1;obtain⟨t0,t1⟩:=aW r0 r1 (.int .i64 oN) (.int .i64 oA);clear bQ rt;go_wp2;refine Θ (v:=.tuple #[.agg #[.int .i64 oN,.int .i64 oA],.int .i64 0]) (by simp[results,results23,go_sem,t0,t1];try rfl) rfl ?_;exact⟨rfl,_,_,((Z zC).box (Z oK) _ _).box ((Z oK).set _ _) _ _,((Z zB).box (ζ _) _ _).box (ζ _) _ _⟩
end
structure Op (w0:World)(ab9:(Nat->Prop)->World->Prop):Prop where
 iV:∀{ab4 O':Nat->Prop} {w w':World},ab9 ab4 w->Kp ab4 w w'->(∀j,O' j->Tag w' j 34/\(ab4 j\/w.heap.size<=j))->ab9 O' w'
 tag:∀{ab4:Nat->Prop} {w:World},ab9 ab4 w->∀j,ab4 j->Tag w j 34
 low:∀{ab4:Nat->Prop} {w:World},ab9 ab4 w->Below w0.heap.size w0 w
section
variable {w0:World}{ab9:(Nat->Prop)->World->Prop}{ab4 O':Nat->Prop}{w w':World}
theorem Op.b (h:Op w0 ab9)(k:ab9 ab4 w)(J:Below w.heap.size w w'):ab9 ab4 w':=h.iV k (Kp.below J) (λj E=>⟨(h.tag k j E).b J,ε E⟩)
theorem Op.more (h:Op w0 ab9)(k:ab9 ab4 w)(J:Below w.heap.size w w'){b:Nat}(hw:w.heap.size<=b)(ht:Tag w' b 34):ab9 (λj=>ab4 j\/j=b) w':=h.iV k (Kp.below J) (λj E=>by
 rcases E with E|rfl
 ·exact⟨(h.tag k j E).b J,ε E⟩
 ·exact⟨ht,δ hw⟩)
theorem Op.less (h:Op w0 ab9)(k:ab9 ab4 w)(hs:∀j,O' j->ab4 j):ab9 O' w:=h.iV k (Kp.refl _ w) (λj E=>⟨h.tag k j (hs j E),ε (hs j E)⟩)
theorem Op.set (h:Op w0 ab9)(k:ab9 ab4 w){b:Nat}(J:ab4 b)(o:Nat)(v:Value):ab9 ab4 (w.setCell ⟨b,o,none⟩ v):=h.iV k (Kp.set w b o v J) (λj E=>⟨(h.tag k j E).set _ _,ε E⟩)
theorem Op.grown {v:Value}{B' g4 n4 c4:Nat}{xs:List Value}(h:Op w0 ab9)(k:ab9 (OB v) w)(q4:w.grownBy w' v.ownBlock)(o4:w'.ownsRow B' 34 2 (.slice (some ⟨g4,0,none⟩) n4 c4) n4 xs)(hg:v.ownBlock=some g4\/g4=w.heap.size):ab9 (OB (.slice (some ⟨g4,0,none⟩) n4 c4)) w':=by
 refine h.iV k ⟨q4.os,q4.tape,q4.output,q4.size,λk D hn=>q4.block k D (λe=>hn e.symm)⟩ (λj E=>?_);obtain rfl:g4=j:=by simpa[OB,Value.ownBlock]using E
 refine⟨fV o4,?_⟩;rcases hg with h|h
 ·exact ε h
 ·exact δ (by omega)
end
variable {e:Nat->Addr}{B Y aK:Nat}{C:Dc}{M:Mc}
def Uz (e:Nat->Addr)(er:Value)(r:Int):Prop:=(∀w1,dM w1 e->Calls prog 16 #[er,.int .i64 r] w1 λev w'=>ev=.returned (.bool true)/\Below w1.heap.size w1 w')/\((er=.nilIface/\r=0)\/r≠0)
theorem eL (n:Nat)(hn:n<10):Uz e (bc (e n)) ((n:Int)+1):=⟨λw1 he=>gT n hn _ rfl w1 e he,δ (by omega)⟩
theorem ig :Uz e .nilIface 0:=⟨λw1 _=>Ey w1,ε ⟨rfl,rfl⟩⟩
structure Px where
 B:Nat
 C:Dc
 M:Mc
 Y:Nat
 aK:Nat
 X:Nat->Option Obj
 e:Nat->Addr
structure wR (p:Px):Prop where
 hN:p.C.w0.heap.size<=p.C.N0
 he:dM p.C.w0 p.e
 Hh:11<p.B
 fr:∀x,x<p.C.k->(p.C.fr x).length=p.C.k/\∀i∈p.C.fr x,i<p.C.k
end Pl
end Go.Proofs.YtcbmfakjfoggaaaGreatDoor
