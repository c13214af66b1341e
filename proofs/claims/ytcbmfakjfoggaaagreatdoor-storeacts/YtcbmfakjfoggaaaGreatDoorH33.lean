/- H33 -/
import Derived.Test.YtcbmfakjfoggaaaGreatDoorA0
import Derived.Test.YtcbmfakjfoggaaaGreatDoorH26
import Derived.Test.YtcbmfakjfoggaaaGreatDoorH30
import Derived.Test.YtcbmfakjfoggaaaGreatDoorH29
set_option maxHeartbeats 0
set_option maxRecDepth 100000
namespace Go.Proofs.YtcbmfakjfoggaaaGreatDoor
open _root_.Go.Proofs.Tryz Go.RowKit Go.Maps
namespace Pl
open Fr Bd Zn Dz Sb Mg
section
variable {B:Nat}{C:Dc}{ab7:Nat->Prop}{X:Nat->Option Obj}{Y F ym d:Nat}{S:Ds}{P:Ps}{w w':World}{e:Nat->Addr}
theorem Kb (h:jo B w Y d F ym P){t:Nat}{ab9 L:List Nat}(hL:P.L=ab9++t::L)(hn:t∉ab9):Calls prog 95 #[P.vl,.int .i64 (t:Int)] w λev w'=>ev=.returned (.int .i64 ab9.length)/\w'=w:=by
 have hlen:P.L.length=ab9.length+(L.length+1):=by rw[hL];simp
 obtain⟨b,c,hv,_⟩:=h.l.form (by omega);obtain⟨f1,f2,f3,f4⟩:=iG h hv;rw[hv];refine(Sh.slices_Index_int b 0 P.L.length c (P.L.map Int.ofNat) t w (by simp) (by unfold maxLen at f3;omega) f1).mono ?_;rintro ev w'⟨rfl,rfl⟩;refine⟨?_,rfl⟩;rw[Lib.idxOf_hit (P.L.map Int.ofNat) P.L.length ab9.length t (by omega) (by simp) (by rw[hL];simp[List.getD_eq_getElem?_getD]) (λj E=>by
  rw[hL];simp only[cU,au];rw[ar (by simpa using E),dy,ξ E];simp only[Option.map_some,bY];intro e;exact hn (by rw[<- show ab9[j]=t from by have:((ab9[j]:Nat):Int)=(t:Int):=e;omega];exact aO E))]
theorem PD.XW (h:PD B C ab7 X Y F ym S P w){b c:Nat}{L':List Nat}{w4:World}(hv:OB P.vl b)(o4:w4.ownsRow B 3 1 (.slice (some ⟨b,0,none⟩) L'.length c) L'.length (dX L'))(k4:Kept b b w w4):
  PD B C ab7 X Y F ym S {P with L:=L',vl:=.slice (some ⟨b,0,none⟩) L'.length c} (w4.setCell ⟨Y,5,none⟩ (.slice (some ⟨b,0,none⟩) L'.length c))/\PF ab7 P {P with L:=L',vl:=.slice (some ⟨b,0,none⟩) L'.length c} w (w4.setCell ⟨Y,5,none⟩ (.slice (some ⟨b,0,none⟩) L'.length c)):=by
 have vG:=(ay h.m.l hv).1;have K4:Kp (PB Y F ym P) w w4:=(Kp.kept (S:=λj=>j=b) k4 rfl rfl).mono λk _ e=>by
  obtain rfl:k=b:=e;exact δ (δ (δ (δ hv)))
 have hne:∀j,j=Y\/j=F\/j=ym\/OB P.vr j->w4.heap[j]?=w.heap[j]?:=λj E=>by
  have hjb:j≠b:=by
   rcases E with h'|h'|h'|h'
   ·exact λe=>(vG.ne h.m.tg (by decide)) (e.symm.trans h')
   ·obtain⟨o,e1,e2⟩:=h.m.t.aQ;exact λe=>aj e1 e2 vG (h'.symm.trans e)
   ·obtain⟨o,e1,e2⟩:=h.m.y.aQ;exact λe=>aj e1 e2 vG (h'.symm.trans e)
   ·exact((ay h.m.r h').1.ne vG (by decide))
  have hlt:j<w.heap.size:=(h.m.lt (b:=j) (by
   rcases E with h|h|h|h
   ·exact ε h
   ·exact δ (ε h)
   ·exact δ (δ (ε h))
   ·exact δ (δ (δ (ε h))))).1
  exact k4.block j hlt hjb hjb
 have M5:=h.m.AZ hne o4;have K5:Kp (PB Y F ym P) w (w4.setCell ⟨Y,5,none⟩ (.slice (some ⟨b,0,none⟩) L'.length c)):=K4.trans (Kp.set w4 Y 5 _ (ε rfl));exact h.own M5 K5 (λj E=>ε E) (λj E=>ε (by
  have:b=j:=by simpa[OB,Value.ownBlock]using E
  rw[<- this];exact hv))
end
section
variable {B:Nat}{C:Dc}{ab7:Nat->Prop}{X:Nat->Option Obj}{Y F ym:Nat}{S:Ds}{P:Ps}{w w':World}{e:Nat->Addr}
theorem PI.fetched (h:PI S P)(t:Int):PI S {P with ab6:=g_ P.ab6 t}:=by
 have hs:∀k,k∈(g_ P.ab6 t).map (·.1)->k∈P.ab6.map (·.1):=λk D=>by
  obtain⟨x,hx,rfl⟩:=eV.1 D;exact fq (fO.1 hx).1
 exact⟨h.most,h.q,h.ab5,h.tk,h.ln,λk D=>⟨(h.lt k D).1,λhm=>(h.lt k D).2 (hs k hm)⟩,λk D=>h.yt k (hs k D)⟩
theorem y9 (h:PD B C ab7 X Y F ym S P w)(hI:PI S P){t:Nat}(hy:fT P.ab6 (t:Int)=none){ab9 L:List Nat}(hL:P.L=ab9++t::L)(hn:t∉ab9):
  Calls prog 26 #[.pointer (some ⟨Y,0,none⟩),.int .i64 t] w λev w'=>ev=.returned .nilIface/\∃ic,PD B C ab7 X Y F ym S {P with L:=ab9++L,vl:=ic} w'/\PF ab7 P {P with L:=ab9++L,vl:=ic} w w':=by
 have hk8:=hI.ln;have XP:ab9.length<8:=by rw[hL]at hk8;simp at hk8;omega
 have nD:=I (lX h (iO (σ (hI.lt t (by rw[hL];simp)).1 hI.tk)));rw[hy,kf hy]at nD;simp only[Option.getD_none,Option.isSome_none]at nD;have HL:=I hL;have HN:=I hn;have rf:IntKind.i64.wrap ((ab9.length:Int)+1)=(ab9.length:Int)+1:=aB _ (by omega);have EZ:¬(ab9.length:Int)<0:=by omega
 clear h hy hI hk8 hL hn;unfold bz at*;go_enter func26,ntmps26;go_wp2_with fail;refine(Z nD).mono ?_;rintro ev w2⟨rfl,XY,XZ⟩;have H2:PD B C ab7 X Y F ym S P w2:=XY;have P2:PF ab7 P P w w2:=XZ;have F3:=χ (γ w2.heap.size w2) (cB 0 0);have H3:=H2.b F3;have fY:=I (P2.trans (H2.fb F3));have kS:=I (Kb H3.m (Z HL) (Z HN));obtain⟨b,c,hv,pV⟩:=Ka H3.m (Z HL);have c5:=H3.m.c5;have f5:=H3.m.fz 5;have T3:=H3.m.tg;rw[hv]at c5 kS;have zu:OB P.vl b:=by rw[hv];rfl
 have vG:=(ay H3.m.l zu).1;have GZ:Y≠b:=λe=>(vG.ne T3 (by decide)) e.symm;have HDL:=I (pV _ rfl);have AH:=I zu;have eD:=I H3;have hpl:=T3.lt;clear H2 P2 XY XZ F3 H3 pV hv zu vG nD;go_upto_region 5 with(fail);generalize w2.alloc (cB 0 0)=W3 at*;generalize w2.heap.size=b9 at*;go_wp2_with fail;refine(Z kS).mono ?_;rintro ev w4⟨rfl,rfl⟩;clear kS;go_wp2_with fail;refine(Z HDL).mono ?_;rintro ev w5⟨rfl,o5,k5⟩;obtain⟨H6,P6⟩:=(Z eD).XW (Z AH) o5 k5;rw[φ]at H6 P6;have PE:=I H6;have Dh:=I ((Z fY).trans P6);have e5:=k5.block Y hpl GZ GZ;have z5:w5.cell? ⟨Y,5,none⟩=some (.slice (some ⟨b,0,none⟩) (ab9.length+(L.length+1)) c):=(η (a:=⟨Y,5,none⟩) e5).trans c5;have y5:w5.frozen? ⟨Y,5,none⟩=false:=(π (a:=⟨Y,5,none⟩) e5).trans f5;clear H6 P6 o5 k5 e5 eD fY HDL AH c5 f5 T3;go_wp2;go_ret;exact⟨rfl,_,Z PE,Z Dh⟩
end
section
variable {B:Nat}{w w':World}{b c:Nat}
theorem mY {ab9 M:List Nat}{t:Nat}(h:w.ownsRow B 3 1 (.slice (some ⟨b,0,none⟩) (ab9.length+(M.length+1)) c) (ab9.length+(M.length+1)) (dX (ab9++t::M)))(hs:ab9.length+M.length<1000):
  Calls prog 92 #[.slice (some ⟨b,0,none⟩) (ab9.length+(M.length+1)) c,.int .i64 ab9.length] w λev w'=>∃v',ev=.returned v'/\w'.ownsRow w.heap.size 3 1 v' (ab9++M).length (dX (ab9++M))/\Below w.heap.size w w':=by
 obtain⟨i0,eO,hz0,hz1,hz2⟩:=aY info3;have HI:=I eO;have HZ:=I hz0;have eI:=I hz1;have eJ:=I hz2;have gB:=om h;have hbl:=(h.lt b rfl).2;have K:∀j,j<(dX (ab9++t::M)).length->w.cell? ⟨b,j,none⟩=(dX (ab9++t::M))[j]?:=λj E=>h.cellAt j (by rw[vM]at E;simp at E;omega);have hK:∀j u,(dX ab9)[j]?=some u->w.cell? ((⟨b,0,none⟩:Addr).add j)=some u:=λj u hu=>by
  have E:j<ab9.length:=by have:=(ν.1 hu).1;simpa[dX]using this
  rw[Bd.eZ,bj,K j (by simp[dX];omega),<- hu];rw[nz,ar (by simpa[dX]using E)]
 have hM:∀j u,(dX M)[j]?=some u->w.cell? ((⟨b,ab9.length+1,none⟩:Addr).add j)=some u:=λj u hu=>by
  have E:j<M.length:=by have:=(ν.1 hu).1;simpa[dX]using this
  rw[Bd.eZ,K (ab9.length+1+j) (by simp[dX];omega),<- hu,show ab9++t::M=(ab9++[t])++M from by simp,nz,aq (by simp[dX])];congr 1;simp[dX]
 have Kc:(dX ab9).length=ab9.length:=vM ab9;have Ql:(dX M).length=M.length:=vM M;have X6:∀u∈dX ab9,u.oneCell'=true:=λu hu=>by
  obtain⟨x,_,rfl⟩:=eV.1 hu;rfl
 have X7:∀u∈dX M,u.oneCell'=true:=λu hu=>by
  obtain⟨x,_,rfl⟩:=eV.1 hu;rfl
 have HR:Hid (∀(v':Value) (w':World),w'.ownsRow w.heap.size 3 1 v' (0+ab9.length+M.length) (([]:List Value)++dX ab9++dX M)->w'.ownsRow w.heap.size 3 1 v' (ab9++M).length (dX (ab9++M))):=λv' w' ho=>by
  rw[φ,nz];simpa using ho
 have rf:IntKind.i64.wrap ((ab9.length:Int)+1)=(ab9.length:Int)+1:=aB _ (by omega);have Il:((ab9.length+(M.length+1):Nat):Int)=(ab9.length:Int)+((M.length:Int)+1):=by omega
 have HHM:=I hM;have Kd:=I X7;have GG:=I Ql;have ze:=I (Ξ w w.heap.size 3 1);clear h K hM X7 Ql eO hz0 hz1 hz2;generalize dX ab9=xs at*;generalize dX M=ys at*;generalize ab9.length=k at*;generalize M.length=m at*;by_cases hc1:c=k+1
 ·obtain rfl:m=0:=by omega
  subst hc1;have Ao:ys=[]:=bf.1 (Z GG);go_enter func92,ntmps92;go_upto_region 2 with(fail);go_wp2_with (first|(at_builtin;refine Ω _ rfl (.tmp 6) (.tmp 9) 38 rfl w.heap.size 3 i0 (.int .i64 0) 1 8 underlying38 (Z HI) (Z HZ) (Z eI) (Z eJ) rfl (by decide) (.slice none 0 0) 0 [] rfl (Z ze) ⟨b,0,none⟩ k _ xs rfl (by omega) hK X6 (by unfold maxLen;omega) (by omega) (ζ _) ?_;intro v1 w1 o1 g1 _;have b1:Below w.heap.size w w1:=gm g1)|(at_builtin;refine Ω _ rfl (.tmp 11) (.tmp 15) 38 rfl w.heap.size 3 i0 (.int .i64 0) 1 8 underlying38 (Z HI) (Z HZ) (Z eI) (Z eJ) rfl (by decide) v1 (0+k) (([]:List Value)++xs) rfl o1 _ _ _ ys rfl (by have:=Z GG;omega) (λj u hu=>by rw[Ao]at hu;simp at hu) (Z Kd) (by unfold maxLen;omega) (by omega) b1.size ?_;intro v2 w2 o2 g2 _));have Ke:∀g,v1.ownBlock=some g->w.heap.size<=g:=λg hg=>by
   have hT:=ay o1 (b:=g) hg;exact hT.2
  have b2:Below w.heap.size w w2:=⟨g2.os.trans b1.os,g2.tape.trans b1.tape,g2.output.trans b1.output,σ b1.size g2.size,λi hi=>(g2.block i (ι hi b1.size) (λe=>by have:=Ke i e.symm;omega)).trans (b1.block i hi)⟩;have e0:k+(0+1)-(k+1)=0:=by omega
  try rw[e0]at o2
  have AE:=I ((Z HR) v2 w2 o2);have kg:=I b2;clear o1 g1 b1 o2 g2 Ke b2;go_wp2;go_ret;refine⟨v2,rfl,?_,Z kg⟩;have ho:=Z AE;rw[φ]at ho;exact ho
 ·go_enter func92,ntmps92;go_upto_region 2 with(fail);go_wp2_with (first|(at_builtin;refine Ω _ rfl (.tmp 6) (.tmp 9) 38 rfl w.heap.size 3 i0 (.int .i64 0) 1 8 underlying38 (Z HI) (Z HZ) (Z eI) (Z eJ) rfl (by decide) (.slice none 0 0) 0 [] rfl (Z ze) ⟨b,0,none⟩ k _ xs rfl (by omega) hK X6 (by unfold maxLen;omega) (by omega) (ζ _) ?_;intro v1 w1 o1 g1 _;have b1:Below w.heap.size w w1:=gm g1)|(at_builtin;refine Ω _ rfl (.tmp 11) (.tmp 15) 38 rfl w.heap.size 3 i0 (.int .i64 0) 1 8 underlying38 (Z HI) (Z HZ) (Z eI) (Z eJ) rfl (by decide) v1 (0+k) (([]:List Value)++xs) rfl o1 _ _ _ ys rfl (by have:=Z GG;omega) (λj u hu=>((b1.cell (p:=(⟨b,k+1,none⟩:Addr).add j) (by rw[Bd.eZ];exact hbl)).trans ((Z HHM) j u hu))) (Z Kd) (by unfold maxLen;omega) (by omega) b1.size ?_;intro v2 w2 o2 g2 _));have Ke:∀g,v1.ownBlock=some g->w.heap.size<=g:=λg hg=>by
   have hT:=ay o1 (b:=g) hg;exact hT.2
  have b2:Below w.heap.size w w2:=⟨g2.os.trans b1.os,g2.tape.trans b1.tape,g2.output.trans b1.output,σ b1.size g2.size,λi hi=>(g2.block i (ι hi b1.size) (λe=>by have:=Ke i e.symm;omega)).trans (b1.block i hi)⟩;have e0:k+(m+1)-(k+1)=m:=by omega
  try rw[e0]at o2
  have AE:=I ((Z HR) v2 w2 o2);have kg:=I b2;clear o1 g1 b1 o2 g2 Ke b2;go_wp2;go_ret;refine⟨v2,rfl,?_,Z kg⟩;have ho:=Z AE;rw[φ]at ho;exact ho
end
section
variable {B:Nat}{w w':World}{v:Value}
theorem jv {L:List Nat}{n:Nat}(h:w.ownsRow B 3 1 v n (dX L))(hn:L.length=n)(hs:n<1000000)(t:Int):
  Calls prog 93 #[v,.int .i64 t] w λev w'=>w'=w/\((∃(ab9:List Nat) (x:Nat) (M:List Nat),L=ab9++x::M/\(x:Int)=t/\(∀y∈ab9,(y:Int)≠t)/\ev=.returned (.int .i64 ab9.length))\/(¬Wt L t/\ev=.returned (.int .i64 (-1)))):=by
 obtain⟨p,c,rfl⟩:=aX h;have HO:=I h;have HN:=I hn;clear h hn;go_enter func93,ntmps93;go_upto_region 2 with(fail);go_loopw [5] (λs wr=>∃k:Nat,s=.int .i64 k/\k<=n/\Hid (wr=w)/\Hid (∀y∈L.take k,(y:Int)≠t)) (λs _=>n-(intOf s).toNat)
 case atStart=>exact⟨0,rfl,Γ _,rfl,λy hy=>by simp at hy⟩
 case round =>
  obtain⟨k,rfl,D,hw,HK⟩:=hrel;obtain rfl:wr=w:=hw;by_cases vh:k<n
  ·have XP:(k:Int)<(n:Int):=by omega
   have EZ:(0:Int)<=k:=by omega
   have X8:k<L.length:=by rw[Z HN];exact vh
   obtain⟨g,cap,e1,_⟩:=(Z HO).form (by omega);simp only[ψ]at e1;obtain⟨rfl,_,rfl⟩:=e1;have x0:=(Z HO).cellAt k (by omega);have hgk:(dX L)[k]?=some (.int .i64 (L[k]:Int)):=by simp[dX,X8]
   rw[hgk]at x0;have Qg:IntKind.i64.wrap ((k:Int)+1)=(k:Int)+1:=aB _ (by omega);have HX:=I (show L[k]?=some L[k]from ξ X8);generalize L[k]=x at*;clear hgk;by_cases Lv:(x:Int)=t
   ·have d1:decide ((x:Int)=t)=true:=by simpa using Lv
    have hL:L=L.take k++x::L.drop (k+1):=by
     obtain⟨G,O⟩:=ν.1 (Z HX);rw[<- O,List.getElem_cons_drop,bS]
    have hlk:(L.take k).length=k:=by rw[cI];omega
    have NW:=I hL;have HLK:=I hlk;clear hL hlk;subst Lv;go_wp2;go_ret;exact⟨rfl,ε ⟨L.take k,x,⟨L.drop (k+1),Z NW⟩,rfl,Z HK,by simp;have:=Z HN;omega⟩⟩
   ·have d1:decide ((x:Int)=t)=false:=by simpa using Lv
    have HK2:Hid (∀y∈L.take (k+1),(y:Int)≠t):=λy hy=>by
     rw[cK,Z HX]at hy;simp only[fG,aC,aw]at hy;rcases hy with hy|rfl
     ·exact(Z HK) y hy
     ·exact Lv
    go_wp2_with fail;go_roundw;case rel=>exact⟨k+1,by go_num,by omega,trivial,HK2⟩
    case measure=>simp[intOf];omega
  ·obtain rfl:k=n:=by omega
   have kn:¬(k:Int)<k:=by omega
   have hno:¬Wt L t:=λ⟨y,hy,e⟩=>by
    have:=Z HK;rw[<- Z HN,b_]at this;exact this y hy e
   have Sc:=I hno;clear hno;go_wp2;go_ret;exact⟨rfl,δ ⟨Z Sc,rfl⟩⟩
end
section
variable {B:Nat}{w w':World}{b c:Nat}
theorem gC {ab9 M:List Bl}{t:Bl}(h:w.ownsRow B 34 2 (.slice (some ⟨b,0,none⟩) (ab9.length+(M.length+1)) c) (ab9.length+(M.length+1)) (flat (ab9++t::M)))(hs:ab9.length+M.length<1000):
  Calls prog 91 #[.slice (some ⟨b,0,none⟩) (ab9.length+(M.length+1)) c,.int .i64 ab9.length] w λev w'=>∃v',ev=.returned v'/\w'.ownsRow w.heap.size 34 2 v' (ab9++M).length (flat (ab9++M))/\Below w.heap.size w w':=by
 obtain⟨i0,eO,hz0,hz1,hz2⟩:=aY kD;have HI:=I eO;have HZ:=I hz0;have eI:=I hz1;have eJ:=I hz2;have gB:=om h;have hbl:=(h.lt b rfl).2;have hlt:(flat (ab9++t::M)).length=(ab9.length+(M.length+1))*2:=by rw[cd];simp
 have K:∀j,j<(flat (ab9++t::M)).length->w.cell? ⟨b,j,none⟩=(flat (ab9++t::M))[j]?:=λj E=>h.cellAt j (by omega);have Kc:(flat ab9).length=ab9.length*2:=cd ab9;have Ql:(flat M).length=M.length*2:=cd M;have hK:∀j u,(flat ab9)[j]?=some u->w.cell? ((⟨b,0,none⟩:Addr).add j)=some u:=λj u hu=>by
  have E:=(ν.1 hu).1;rw[Bd.eZ,bj,K j (by omega),<- hu];rw[bM,ar E]
 have hM:∀j u,(flat M)[j]?=some u->w.cell? ((⟨b,(ab9.length+1)*2,none⟩:Addr).add j)=some u:=λj u hu=>by
  have E:=(ν.1 hu).1;have hKt:(flat (ab9++[t])).length=(ab9.length+1)*2:=by rw[cd];simp
  rw[Bd.eZ,K ((ab9.length+1)*2+j) (by omega),<- hu,show ab9++t::M=(ab9++[t])++M from by simp,bM,aq (by omega),hKt];congr 1;omega
 have X6:∀u∈flat ab9,u.oneCell'=true:=fL ab9;have X7:∀u∈flat M,u.oneCell'=true:=fL M;have HR:Hid (∀(v':Value) (w':World),w'.ownsRow w.heap.size 34 2 v' (0+ab9.length+M.length) (([]:List Value)++flat ab9++flat M)->w'.ownsRow w.heap.size 34 2 v' (ab9++M).length (flat (ab9++M))):=λv' w' ho=>by
  rw[φ,bM];simpa using ho
 have rf:IntKind.i64.wrap ((ab9.length:Int)+1)=(ab9.length:Int)+1:=aB _ (by omega);have Il:((ab9.length+(M.length+1):Nat):Int)=(ab9.length:Int)+((M.length:Int)+1):=by omega
 have HHM:=I hM;have Kd:=I X7;have GG:=I Ql;have ze:=I (Ξ w w.heap.size 34 2);clear h K hM X7 Ql eO hz0 hz1 hz2 hlt;generalize flat ab9=xs at*;generalize flat M=ys at*;generalize ab9.length=k at*;generalize M.length=m at*;by_cases hc1:c=k+1
 ·obtain rfl:m=0:=by omega
  subst hc1;have Ao:ys=[]:=bf.1 (by have:=Z GG;omega);go_enter func91,ntmps91;go_upto_region 2 with(fail);go_wp2_with (first|(at_builtin;refine Ω _ rfl (.tmp 6) (.tmp 9) 32 rfl w.heap.size 34 i0 (.agg #[.int .i64 0,.int .i64 0]) 2 16 underlying32 (Z HI) (Z HZ) (Z eI) (Z eJ) rfl (by decide) (.slice none 0 0) 0 [] rfl (Z ze) ⟨b,0,none⟩ k _ xs rfl (by omega) hK X6 (by unfold maxLen;omega) (by omega) (ζ _) ?_;intro v1 w1 o1 g1 _;have b1:Below w.heap.size w w1:=gm g1)|(at_builtin;refine Ω _ rfl (.tmp 11) (.tmp 15) 32 rfl w.heap.size 34 i0 (.agg #[.int .i64 0,.int .i64 0]) 2 16 underlying32 (Z HI) (Z HZ) (Z eI) (Z eJ) rfl (by decide) v1 (0+k) (([]:List Value)++xs) rfl o1 _ _ _ ys rfl (by have:=Z GG;omega) (λj u hu=>by rw[Ao]at hu;simp at hu) (Z Kd) (by unfold maxLen;omega) (by omega) b1.size ?_;intro v2 w2 o2 g2 _));have Ke:∀g,v1.ownBlock=some g->w.heap.size<=g:=λg hg=>by
   have hT:=ay o1 (b:=g) hg;exact hT.2
  have b2:Below w.heap.size w w2:=⟨g2.os.trans b1.os,g2.tape.trans b1.tape,g2.output.trans b1.output,σ b1.size g2.size,λi hi=>(g2.block i (ι hi b1.size) (λe=>by have:=Ke i e.symm;omega)).trans (b1.block i hi)⟩;have e0:k+(0+1)-(k+1)=0:=by omega
  try rw[e0]at o2
  have AE:=I ((Z HR) v2 w2 o2);have kg:=I b2;clear o1 g1 b1 o2 g2 Ke b2;go_wp2;go_ret;refine⟨v2,rfl,?_,Z kg⟩;have ho:=Z AE;rw[φ]at ho;exact ho
 ·go_enter func91,ntmps91;go_upto_region 2 with(fail);go_wp2_with (first|(at_builtin;refine Ω _ rfl (.tmp 6) (.tmp 9) 32 rfl w.heap.size 34 i0 (.agg #[.int .i64 0,.int .i64 0]) 2 16 underlying32 (Z HI) (Z HZ) (Z eI) (Z eJ) rfl (by decide) (.slice none 0 0) 0 [] rfl (Z ze) ⟨b,0,none⟩ k _ xs rfl (by omega) hK X6 (by unfold maxLen;omega) (by omega) (ζ _) ?_;intro v1 w1 o1 g1 _;have b1:Below w.heap.size w w1:=gm g1)|(at_builtin;refine Ω _ rfl (.tmp 11) (.tmp 15) 32 rfl w.heap.size 34 i0 (.agg #[.int .i64 0,.int .i64 0]) 2 16 underlying32 (Z HI) (Z HZ) (Z eI) (Z eJ) rfl (by decide) v1 (0+k) (([]:List Value)++xs) rfl o1 _ _ _ ys rfl (by have:=Z GG;omega) (λj u hu=>((b1.cell (p:=(⟨b,(k+1)*2,none⟩:Addr).add j) (by rw[Bd.eZ];exact hbl)).trans ((Z HHM) j u hu))) (Z Kd) (by unfold maxLen;omega) (by omega) b1.size ?_;intro v2 w2 o2 g2 _));have Ke:∀g,v1.ownBlock=some g->w.heap.size<=g:=λg hg=>by
   have hT:=ay o1 (b:=g) hg;exact hT.2
  have b2:Below w.heap.size w w2:=⟨g2.os.trans b1.os,g2.tape.trans b1.tape,g2.output.trans b1.output,σ b1.size g2.size,λi hi=>(g2.block i (ι hi b1.size) (λe=>by have:=Ke i e.symm;omega)).trans (b1.block i hi)⟩;have e0:k+(m+1)-(k+1)=m:=by omega
  try rw[e0]at o2
  have AE:=I ((Z HR) v2 w2 o2);have kg:=I b2;clear o1 g1 b1 o2 g2 Ke b2;go_wp2;go_ret;refine⟨v2,rfl,?_,Z kg⟩;have ho:=Z AE;rw[φ]at ho;exact ho
end
end Pl
end Go.Proofs.YtcbmfakjfoggaaaGreatDoor
