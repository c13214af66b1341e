/- H32 -/
import Derived.Test.YtcbmfakjfoggaaaGreatDoorA0
import Derived.Test.YtcbmfakjfoggaaaGreatDoorH26
import Derived.Test.YtcbmfakjfoggaaaGreatDoorH30
set_option maxHeartbeats 0
set_option maxRecDepth 100000
namespace Go.Proofs.YtcbmfakjfoggaaaGreatDoor
open _root_.Go.Proofs.Tryz Go.RowKit Go.Maps
namespace Pl
open Fr Bd Zn Dz Sb Mg
inductive zD (C:Dc):Ds->List Bl->Ds->Prop
 |nil (S:Ds):zD C S [] S
 |snoc (S S1 S2:Ds) (l:List Bl) (o:Bl) (r:Option Nat) (h:zD C S l S1) (hg:yj C S1 0 o r S2) (hF:FA C S2):zD C S (l++[o]) S2
section
variable {B:Nat}{C:Dc}{ab7 V':Nat->Prop}{X:Nat->Option Obj}{Y F ym d:Nat}{S S':Ds}{P P':Ps}{w w':World}{e:Nat->Addr}
theorem yj.ab5 {x:Int}{o:Bl}{r:Option Nat}(h:yj C S x o r S'):S'.ab5<=S.ab5+1:=by
 cases h<;>simp
theorem yO (h:PD B C ab7 X Y F ym S P w)(hN:C.w0.heap.size<=C.N0)(he:dM C.w0 e)(hQ:S.ab5+P.R.length<=900000):
  Calls prog 70 #[.pointer (some ⟨Y,0,none⟩)] w λev w'=>ev=.returned (.tuple #[])/\∃S',zD C S P.R S'/\PD B C ab7 X Y F ym S' P w'/\PF ab7 P P w w':=by
 obtain⟨pr,cr,lU⟩:=aX h.m.r;have c2:=h.m.c2;rw[lU]at c2;have A8:=I lU;have HD0:=I h;have HF0:=I (PF.refl ab7 P w);have HE:=I he;have HQ:=I hQ;generalize hn:P.R.length=n at*;have gM:=I hn;clear h lU he hQ hn;go_enter func70,ntmps70;go_wp2_with fail;go_loopw [9] (λs wr=>∃(k:Nat) (S1:Ds),s=.int .i64 k/\k<=n/\Hid (S1.ab5<=S.ab5+k)/\Hid (zD C S (P.R.take k) S1)/\Hid (PD B C ab7 X Y F ym S1 P wr)/\Hid (PF ab7 P P w wr)) (λs _=>n-(intOf s).toNat)
 case atStart=>exact⟨0,S,rfl,Γ _,by show S.ab5<=S.ab5+0;omega,zD.nil S,HD0,HF0⟩
 case round =>
  clear HD0 HF0 c2;obtain⟨k,S1,rfl,D,XO,Qf,HD,HF⟩:=hrel;by_cases vh:k<n
  ·have XP:(k:Int)<(n:Int):=by omega
   have EZ:(0:Int)<=k:=by omega
   have hn9:n<=900000:=by have:=Z HQ;omega
   have Qg:IntKind.i64.wrap ((k:Int)+1)=(k:Int)+1:=aB _ (by omega);obtain⟨x,y,jl⟩:∃x y,P.R[k]?=some (x,y):=⟨_,_,ξ (by rw[Z gM];exact vh)⟩;have hr:=(Z HD).m.r;rw[Z A8,Z gM]at hr;obtain⟨gr,rfl,y0,y1⟩:=Td hr (Z gM) jl;have sU:=I jl;have F1:=χ (γ wr.heap.size wr) (cB x y);have q':=θ wr #[.int .i64 x,.int .i64 y] 34;have q0:=q' 0;have q1:=q' 1;simp only[Δ,υ,ω]at q0 q1;have H1:=(Z HD).b F1;have cZ:=I ((Z HF).trans ((Z HD).fb F1));have c0:=H1.m.c0;have uC:=I ((H1.b (dw _)).k.give hN (by have:=Z HQ;have:=Z XO;omega) (Z HE).Ro 0 (x,y));have dD:=I H1;clear F1 q' H1 HD HF hr jl;simp only at uC;go_upto_region 3 with(fail);generalize wr.alloc (cB x y)=W1 at*;generalize wr.heap.size=b9 at*;go_region_with ((go_at_call 148;refine(Z uC).mono ?_;rintro ev w5⟨r,S',rfl,hG,D5,U5⟩));all_goals
    obtain⟨H5,P5⟩:=((Z dD).b (dw _)).turn D5 U5;have gW:=I H5;have iY:=I (((Z cZ).trans ((Z dD).fb (dw _))).trans P5);have Te:Hid (zD C S (P.R.take (k+1)) S'):=by
     show zD C S (P.R.take (k+1)) S';rw[pL (Z sU)];exact .snoc S S1 S' _ _ r (Z Qf) hG (DK.fa D5)
    have HQ2:Hid (S'.ab5<=S.ab5+(k+1)):=by
     show S'.ab5<=S.ab5+(k+1);have:=hG.ab5;have:=Z XO;omega
    clear H5 P5 D5 U5 hG dD cZ uC y0 y1 q0 q1 c0;go_wp2_with fail;go_roundw;case rel=>exact⟨k+1,S',by go_num,by omega,HQ2,Te,gW,iY⟩
    case measure=>simp[intOf];omega
  ·obtain rfl:k=n:=by omega
   have kn:¬(k:Int)<k:=by omega
   have Te:Hid (zD C S P.R S1):=by
    show zD C S P.R S1;have:=Z Qf;rw[<- Z gM,b_]at this;exact this
   go_wp2_with fail;go_end0;exact⟨rfl,S1,Z Te,Z HD,Z HF⟩
end
section
variable {B:Nat}{C:Dc}{ab7 V':Nat->Prop}{X:Nat->Option Obj}{Y F ym:Nat}{S S':Ds}{P P':Ps}{w w':World}{e:Nat->Addr}{x y:Int}{u:Bool}{r:Option Nat}{o:Bl}
theorem mh {n:Nat}(h:mV C S x y u (some n) o S'):o=(0,0):=by cases h<;>rfl
theorem PD.bare (h:PD B C ab7 X Y F ym S P w):DK C ab7 X S w:=by
 refine h.k.iV (T:=λ_=>False) (Kp.refl _ w) (λ_ _ _ _ _ _ _ _=>id) (λ_ h=>h.elim) (λ_ h=>h.elim) (λj o e=>?_) (λj E=>⟨h.iH j E,ε (ε E)⟩);have hx2:X2 F ym X w j=some o:=by
  unfold X2;rw[ai,e];rintro(rfl|rfl)
  ·rw[h.xt.1]at e;cases e
  ·rw[h.xt.2]at e;cases e
 obtain⟨e1,e2⟩:=h.k.map hx2;exact⟨e1,e2,ε ⟨o,hx2⟩⟩
inductive yP (C:Dc)(y:Int):Ds->List Bl->Ds->Prop
 |nil (S:Ds):yP C y S [] S
 |snoc (S S1 S2:Ds) (l:List Bl) (o:Bl) (h:yP C y S l S1) (hT:mV C S1 0 y true none o S2) (hF:FA C S2):yP C y S (l++[o]) S2
theorem qi (h:mV C S x y u r o S'):S'.ab5=S.ab5:=by cases h<;>rfl
theorem yP.ab5 {l:List Bl}(h:yP C y S l S'):S'.ab5=S.ab5:=by
 induction h with
 |nil=>rfl
 |snoc S1 S2 l o h hT hF ih=>exact(qi hT).trans ih
theorem NV (h:DK C ab7 X S w)(hN:C.w0.heap.size<=C.N0)(he:dM C.w0 e)(Sy:C.w0.heap.size<=B)(hB:B<=w.heap.size){n:Nat}(hn:1<=n/\n<=16)(y:Int)(hQ:S.ab5<=800000):
  Calls prog 14 #[.pointer (some ⟨C.d,0,none⟩),.int .i64 y,.int .i64 n] w λev w' =>
   (ev=.returned (.tuple #[.pointer (some ⟨w.heap.size+1+1,0,none⟩),.nilIface])/\∃S' R vr,R.length=n/\yP C y S R S'/\PD B C ab7 X (w.heap.size+1+1) w.heap.size (w.heap.size+1) S' {pG n with R:=R,vr:=vr} w'/\PF ab7 (pG n) {pG n with R:=R,vr:=vr} w w') \/
   (∃m S1 S2 S' R,ev=.returned (.tuple #[.pointer none,bc (e m)])/\R.length<n/\yP C y S R S1/\mV C S1 0 y true (some m) (0,0) S2/\FA C S2/\zD C S2 R S'/\DK C ab7 X S' w'/\PF ab7 (pG n) (pG n) w w'):=by
 have yq:=λj (E:ab7 j)=>(DQ.uk h j E).lt;have H0:=I (PD.start h Sy hB n);have F0:=I (PF.below (P:=pG n) yq (Ba w C.d n));have HV:=I yq;have WL:=I (yP.nil (C:=C) (y:=y) S);have HQ:=I hQ;have HE:=I he;have d1:decide ((n:Int)<1)=false:=by simp;omega
 have d2:decide ((n:Int)>16)=false:=by simp;omega
 have d3:decide ((16:Int)<(n:Int))=false:=by simp;omega
 clear yq h he hQ;unfold qg at*;have f_:=@run_makeMap prog;go_enter func14,ntmps14;go_upto_region 6 with(fail);clear f_;generalize((w.alloc (.map #[] 0)).alloc (.map #[] 0)).alloc (.cells #[.pointer (some ⟨C.d,0,none⟩),.int .i64 n,.slice none 0 0,.map (some w.heap.size),.map (some (w.heap.size+1)),.slice none 0 0,.int .i64 0] 144)=W at*;go_wp2_with fail;go_loopw [28] (λs wr=>∃(j:Nat) (S1:Ds) (R:List Bl) (vr:Value),s=.int .i64 j/\j<=n/\R.length=j/\Hid (yP C y S R S1)/\Hid (PD B C ab7 X (w.heap.size+1+1) w.heap.size (w.heap.size+1) S1 {pG n with R:=R,vr:=vr} wr)/\Hid (PF ab7 (pG n) {pG n with R:=R,vr:=vr} w wr)) (λs _=>n-(intOf s).toNat)
 case atStart=>exact⟨0,S,[],.slice none 0 0,rfl,Γ _,rfl,WL,H0,F0⟩
 case round =>
  clear H0 F0 WL;obtain⟨j,S1,R,vr,rfl,E,hl,yx,hD,hF⟩:=hrel;by_cases Mt:j<n
  ·have qm:(j:Int)<(n:Int):=by omega
   have Ul:=Z hD;have gL:=I (Ul.k.take hN (Z HE).Ro 0 y true);clear Ul;go_wp2_with fail;refine(Z gL).mono ?_;rintro ev w2⟨r,⟨oN,oA⟩,S2,rfl,hT,D2,U2⟩;obtain⟨H2,P2⟩:=(Z hD).turn D2 U2;have ni:=I hT;have eA:=(Z hF).trans P2;have F3:=χ (γ w2.heap.size w2) (cB oN oA);have q':=θ w2 #[.int .i64 oN,.int .i64 oA] 34;have q0:=q' 0;have q1:=q' 1;simp only[Δ,υ,ω]at q0 q1;have H3:=H2.b F3;have fY:=I (eA.trans (H2.fb F3));have c2:=H3.m.c2;have f2:=H3.m.fz 2;have r3:=H3.m.r;have T3:=H3.m.tg;simp only at c2 r3;obtain⟨pp,cp,lU⟩:=aX r3;rw[hl]at lU;have A8:=I lU;rw[lU]at c2;rw[lU,hl]at r3;have eD:=I H3;have hBs:B<=w2.heap.size:=σ H2.m.ge (ck H2.m.tg.lt);clear gL hT D2 U2 H2 P2 eA F3 q' H3 hD hF lU;cases r with
   |none =>
    have SA:Hid (yP C y S (R++[(oN,oA)]) S2):=.snoc S S1 S2 R _ (Z yx) (Z ni) (DK.fa (Z eD).k);unfold bz wO at*;simp only at*;go_upto_region 12 with(fail);generalize w2.alloc (cB oN oA)=W3 at*;have BA:Below W3.heap.size W3 (W3.alloc (cB oN oA)).drew:=(χ (γ _ _) _).drew;have iE:=aN r3 BA;have ir:=T3.b BA;have hNb:B<=(W3.alloc (cB oN oA)).drew.heap.size:=σ (σ (Z eD).m.ge (ck T3.lt)) BA.size;have j9:=(BA.cell (p:=⟨w.heap.size+1+1,2,none⟩) T3.lt).trans c2;have j_:=(BA.frozen (p:=⟨w.heap.size+1+1,2,none⟩) T3.lt).trans f2;go_wp2_with fail;go_region_law (refine lT rfl (.tmp 45) (.tmp 47) rfl B (.slice pp j cp) j (flat R) (by simp[Act.eval]) iE (by simp[Act.eval]) (by omega) hNb ?_;intro g4 c4 w4 o4 q4 hg4 kE;have e4:=q4.block (w.heap.size+1+1) ir.lt (d_ iE ir (by decide));have sQ:w4.cell? ⟨w.heap.size+1+1,2,none⟩=some (.slice pp j cp):=(η (a:=⟨w.heap.size+1+1,2,none⟩) e4).trans j9;have ue:w4.frozen? ⟨w.heap.size+1+1,2,none⟩=false:=(π (a:=⟨w.heap.size+1+1,2,none⟩) e4).trans j_);all_goals
     have ui:w4.ownsRow B 34 2 (.slice (some ⟨g4,0,none⟩) (j+1) c4) (R++[(oN,oA)]).length (flat (R++[(oN,oA)])):=by
      rw[φ,hl,bM];exact o4
     have hk4:Kp (λb=>OB vr b) (W3.alloc (cB oN oA)).drew w4:=⟨q4.os,q4.tape,q4.output,q4.size,λk D hn=>q4.block k D (λe=>hn (by rw[Z A8];exact e.symm))⟩;have hG:∀b,OB (.slice (some ⟨g4,0,none⟩) (j+1) c4) b->OB vr b\/W3.heap.size<=b:=λb J=>by
      obtain rfl:g4=b:=by simpa[OB,Value.ownBlock]using J
      rcases hg4 with h|h
      ·exact ε (by rw[Z A8];exact h)
      ·right;have G:=BA.size;omega
     obtain⟨H5,P5⟩:=(Z eD).push (o:=(oN,oA)) BA ui hk4 hG;have gW:=I H5;have iY:=I ((Z fY).trans P5);have rH:(R++[(oN,oA)]).length=j+1:=by simp[hl]
     clear hG hk4 ui H5 P5 o4 q4 hg4 kE e4 sQ ue j9 j_ iE BA ir hNb;generalize w4.setCell ⟨w.heap.size+1+1,2,none⟩ (.slice (some ⟨g4,0,none⟩) (j+1) c4)=w5 at*;go_wp2_with fail;go_roundw;case rel=>exact⟨j+1,S2,R++[(oN,oA)],_,by go_num,by omega,rH,SA,gW,iY⟩
     case measure=>simp[intOf];omega
   |some m =>
    have ho:=mh (Z ni);simp only[fR]at ho;obtain⟨rfl,rfl⟩:=ho;have TU:S2.ab5=S.ab5:=(qi (Z ni)).trans (yP.ab5 (Z yx));have Qf:=I (yO (Z eD) hN (Z HE) (by have:=Z HQ;show S2.ab5+R.length<=900000;omega));unfold bz wO bc at*;simp only at*;clear c2 f2 r3 T3 q0 q1 A8;go_upto_region 9 with(fail);generalize w2.alloc (cB 0 0)=W3 at*;go_wp2_with fail;refine(Z Qf).mono ?_;rintro ev w4⟨rfl,S',hL,H4,P4⟩;have NT:=I H4.bare;have jI:=(Z fY).trans P4;have HFF:Hid (PF ab7 (pG n) (pG n) w w4):=⟨jI.v,jI.s,jI.l,jI.z,λ_ h=>ε h,λ_ h=>ε h⟩;have NW:=I hL;have HFA:=I (DK.fa (Z eD).k);clear Qf hL H4 P4 jI eD fY;go_wp2;refine Θ (v:=.tuple #[.pointer none,.iface 424 (.pointer (some (e m)))]) (by simp[results,results14,go_sem];try rfl) rfl ?_;exact δ ⟨m,S1,S2,S',R,rfl,by omega,Z yx,Z ni,Z HFA,Z NW,Z NT,Z HFF⟩
  ·obtain rfl:j=n:=by omega
   have kn:¬(j:Int)<j:=by omega
   go_wp2_with fail;go_ret2;exact ε ⟨rfl,S1,R,hl,Z yx,vr,Z hD,Z hF⟩
end
structure CL (w:World)(Y:Nat):Prop where
 c0:w.cell? ⟨Y,0,none⟩=some (.pointer none)
 c1:w.cell? ⟨Y,1,none⟩=some (.int .i64 0)
 c2:w.cell? ⟨Y,2,none⟩=some (.slice none 0 0)
 c3:w.cell? ⟨Y,3,none⟩=some (.map none)
 c4:w.cell? ⟨Y,4,none⟩=some (.map none)
 c5:w.cell? ⟨Y,5,none⟩=some (.slice none 0 0)
 c6:w.cell? ⟨Y,6,none⟩=some (.int .i64 0)
 tg:Tag w Y 144
 fz:∀o,w.frozen? ⟨Y,o,none⟩=false
section
variable {B:Nat}{C:Dc}{ab7 V':Nat->Prop}{X:Nat->Option Obj}{Y F ym:Nat}{S S':Ds}{P P':Ps}{w w':World}{e:Nat->Addr}
theorem PD.shut (h:PD B C ab7 X Y F ym S P w)(D:Kp (λb=>b=Y) w w'):DK C ab7 X S w'/\PF ab7 P P w w':=by
 have hd:=h.bare;have ht:=h.m.tg;have hs:∀j,j<w.heap.size->j≠Y->w'.heap[j]?=w.heap[j]?:=λj E hn=>D.blk j E hn;refine⟨hd.iV D ?_ (λb J=>by subst J;exact σ h.hB h.m.ge) (λb J=>by subst J;exact δ (δ ⟨144,ht,by decide,by decide⟩)) (λb o e=>?_) (λj E=>?_),⟨λk nB=>hs k (h.uu k nB) ((h.iH k nB).ne ht (by decide)),λb t hm J=>hs b J.lt (J.ne ht (by rintro rfl;simp at hm)),λk nB _=>hs k nB.lt (nB.ne ht (by decide)),D.size,λ_ h=>ε h,λ_ h=>ε h⟩⟩
 ·rintro g c i h' d e1 e2 hi rfl;obtain⟨g2,c2,rows,e3,o2,r2⟩:=h.k.dz.cf;rw[e3]at e1;simp only[τ,ψ,av,bI,aZ]at e1;obtain⟨rfl,rfl⟩:=e1;obtain⟨O,d2,e4,o3⟩:=r2 i hi;rw[(o2.cellAt i (by omega)).trans e4]at e2;simp only[τ,ψ,av,bI,aZ]at e2;obtain⟨rfl,rfl⟩:=e2;exact(fV o3).ne ht (by decide) rfl
 ·obtain⟨e1,e2⟩:=hd.map e;exact⟨(hs b (Array.getElem?_eq_some_iff.mp e1).1 (aj e1 e2 ht)).trans e1,e2,ε ⟨o,e⟩⟩
 ·have hj':=h.iH j E;exact⟨hj'.blk (hs j hj'.lt (hj'.ne ht (by decide))),ε E⟩
theorem yU (h:PD B C ab7 X Y F ym S P w)(he:dM C.w0 e)(hL:P.L≠[]):Calls prog 28 #[.pointer (some ⟨Y,0,none⟩)] w λev w'=>ev=.returned (bc (e 5))/\w'=w:=by
 obtain⟨pl,cl,hv⟩:=aX h.m.l;have c0:=h.m.c0;have c5:=h.m.c5;rw[hv]at c5;have jw:0<P.L.length:=aU.2 hL;have d1:decide ((P.L.length:Int)>0)=true:=by simp;omega
 have d2:decide ((0:Int)<(P.L.length:Int))=true:=by simp;omega
 have d3:decide (0<P.L.length)=true:=by simp;omega
 have v5:=(he.below (DQ.b0 h.k)).v5;unfold bc at*;generalize P.L.length=n at*;clear h he hv hL;go_enter func28,ntmps28;go_wp2;go_ret;exact⟨rfl,rfl⟩
theorem yV (h:PD B C ab7 X Y F ym S P w)(he:dM C.w0 e)(hL:P.L=[])(hY:P.ab6≠[]):Calls prog 28 #[.pointer (some ⟨Y,0,none⟩)] w λev w'=>ev=.returned (bc (e 5))/\w'=w:=by
 obtain⟨pl,cl,hv⟩:=aX h.m.l;have c0:=h.m.c0;have c5:=h.m.c5;have c4:=h.m.c4;have hlen:=h.m.y.len;rw[hv,hL]at c5;simp only[aA]at c5;have jw:0<P.ab6.length:=aU.2 hY;have d1:decide ((P.ab6.length:Int)>0)=true:=by simp;omega
 have d2:decide ((0:Int)<(P.ab6.length:Int))=true:=by simp;omega
 have d3:decide (0<P.ab6.length)=true:=by simp;omega
 have v5:=(he.below (DQ.b0 h.k)).v5;unfold bc at*;generalize P.ab6.length=n at*;clear h he hv hL hY;go_enter func28,ntmps28;go_wp2;go_ret;exact⟨rfl,rfl⟩
end
theorem abb {w:World}{Y:Nat}{y0 y1 y2 y3 y4 y5 y6 v0 v1 v2 v3 v4 v5 v6:Value}(x0:w.cell? ⟨Y,0,none⟩=some y0)(x1:w.cell? ⟨Y,1,none⟩=some y1)(x2:w.cell? ⟨Y,2,none⟩=some y2)(x3:w.cell? ⟨Y,3,none⟩=some y3)(x4:w.cell? ⟨Y,4,none⟩=some y4)(x5:w.cell? ⟨Y,5,none⟩=some y5)(x6:w.cell? ⟨Y,6,none⟩=some y6):(((((((w.setCell ⟨Y,0,none⟩ v0).setCell ⟨Y,1,none⟩ v1).setCell ⟨Y,2,none⟩ v2).setCell ⟨Y,3,none⟩ v3).setCell ⟨Y,4,none⟩ v4).setCell ⟨Y,5,none⟩ v5).setCell ⟨Y,6,none⟩ v6).cell? ⟨Y,0,none⟩=some v0/\(((((((w.setCell ⟨Y,0,none⟩ v0).setCell ⟨Y,1,none⟩ v1).setCell ⟨Y,2,none⟩ v2).setCell ⟨Y,3,none⟩ v3).setCell ⟨Y,4,none⟩ v4).setCell ⟨Y,5,none⟩ v5).setCell ⟨Y,6,none⟩ v6).cell? ⟨Y,1,none⟩=some v1/\(((((((w.setCell ⟨Y,0,none⟩ v0).setCell ⟨Y,1,none⟩ v1).setCell ⟨Y,2,none⟩ v2).setCell ⟨Y,3,none⟩ v3).setCell ⟨Y,4,none⟩ v4).setCell ⟨Y,5,none⟩ v5).setCell ⟨Y,6,none⟩ v6).cell? ⟨Y,2,none⟩=some v2/\(((((((w.setCell ⟨Y,0,none⟩ v0).setCell ⟨Y,1,none⟩ v1).setCell ⟨Y,2,none⟩ v2).setCell ⟨Y,3,none⟩ v3).setCell ⟨Y,4,none⟩ v4).setCell ⟨Y,5,none⟩ v5).setCell ⟨Y,6,none⟩ v6).cell? ⟨Y,3,none⟩=some v3/\(((((((w.setCell ⟨Y,0,none⟩ v0).setCell ⟨Y,1,none⟩ v1).setCell ⟨Y,2,none⟩ v2).setCell ⟨Y,3,none⟩ v3).setCell ⟨Y,4,none⟩ v4).setCell ⟨Y,5,none⟩ v5).setCell ⟨Y,6,none⟩ v6).cell? ⟨Y,4,none⟩=some v4/\(((((((w.setCell ⟨Y,0,none⟩ v0).setCell ⟨Y,1,none⟩ v1).setCell ⟨Y,2,none⟩ v2).setCell ⟨Y,3,none⟩ v3).setCell ⟨Y,4,none⟩ v4).setCell ⟨Y,5,none⟩ v5).setCell ⟨Y,6,none⟩ v6).cell? ⟨Y,5,none⟩=some v5/\(((((((w.setCell ⟨Y,0,none⟩ v0).setCell ⟨Y,1,none⟩ v1).setCell ⟨Y,2,none⟩ v2).setCell ⟨Y,3,none⟩ v3).setCell ⟨Y,4,none⟩ v4).setCell ⟨Y,5,none⟩ v5).setCell ⟨Y,6,none⟩ v6).cell? ⟨Y,6,none⟩=some v6 :=
 ⟨((bu (by simp)).trans ((bu (by simp)).trans ((bu (by simp)).trans ((bu (by simp)).trans ((bu (by simp)).trans ((bu (by simp)).trans (fK x0))))))),((bu (by simp)).trans ((bu (by simp)).trans ((bu (by simp)).trans ((bu (by simp)).trans ((bu (by simp)).trans (fK ((bu (by simp)).trans x1))))))),((bu (by simp)).trans ((bu (by simp)).trans ((bu (by simp)).trans ((bu (by simp)).trans (fK ((bu (by simp)).trans ((bu (by simp)).trans x2))))))),((bu (by simp)).trans ((bu (by simp)).trans ((bu (by simp)).trans (fK ((bu (by simp)).trans ((bu (by simp)).trans ((bu (by simp)).trans x3))))))),((bu (by simp)).trans ((bu (by simp)).trans (fK ((bu (by simp)).trans ((bu (by simp)).trans ((bu (by simp)).trans ((bu (by simp)).trans x4))))))),((bu (by simp)).trans (fK ((bu (by simp)).trans ((bu (by simp)).trans ((bu (by simp)).trans ((bu (by simp)).trans ((bu (by simp)).trans x5))))))),(fK ((bu (by simp)).trans ((bu (by simp)).trans ((bu (by simp)).trans ((bu (by simp)).trans ((bu (by simp)).trans ((bu (by simp)).trans x6)))))))⟩
theorem kp7 {S:Nat->Prop}{w:World}{Y:Nat}{v0 v1 v2 v3 v4 v5 v6:Value}(h:S Y):Kp S w (((((((w.setCell ⟨Y,0,none⟩ v0).setCell ⟨Y,1,none⟩ v1).setCell ⟨Y,2,none⟩ v2).setCell ⟨Y,3,none⟩ v3).setCell ⟨Y,4,none⟩ v4).setCell ⟨Y,5,none⟩ v5).setCell ⟨Y,6,none⟩ v6):=
 (((((((Kp.set w Y 0 v0 h).trans (Kp.set _ Y 1 v1 h)).trans (Kp.set _ Y 2 v2 h)).trans (Kp.set _ Y 3 v3 h)).trans (Kp.set _ Y 4 v4 h)).trans (Kp.set _ Y 5 v5 h)).trans (Kp.set _ Y 6 v6 h))
section
variable {B:Nat}{C:Dc}{ab7 V':Nat->Prop}{X:Nat->Option Obj}{Y F ym:Nat}{S S':Ds}{P P':Ps}{w w':World}{e:Nat->Addr}
theorem yX (h:PD B C ab7 X Y F ym S P w)(he:dM C.w0 e)(hL:P.L=[])(hY:P.ab6=[])(hT:∃o∈P.T,di C S o):Calls prog 28 #[.pointer (some ⟨Y,0,none⟩)] w λev w'=>ev=.returned (bc (e 5))/\Below w.heap.size w w':=by
 obtain⟨pl,cl,hv⟩:=aX h.m.l;have c0:=h.m.c0;have c5:=h.m.c5;have c4:=h.m.c4;have hlen:=h.m.y.len;rw[hv,hL]at c5;rw[hY]at hlen;simp only[aA]at c5 hlen;have gM:=I (yT h true ⟨λ_=>hT,λ_=>rfl⟩);have HB:=I (DQ.b0 h.k);have HE:=I he;clear h he hv hL hY;go_enter func28,ntmps28;go_wp2_with fail;refine(Z gM).mono ?_;rintro ev w2⟨rfl,b2⟩;have v5:=((Z HE).below (bW (Z HB) b2)).v5;have kg:=I b2;unfold bc at*;clear gM b2 hlen c0 c4 c5;go_wp2;go_ret;exact⟨rfl,Z kg⟩
theorem J3 (h:PD B C ab7 X Y F ym S P w)(hN:C.w0.heap.size<=C.N0)(he:dM C.w0 e)(hQ:S.ab5+P.R.length<=900000)(hL:P.L=[])(hY:P.ab6=[])(hT:¬∃o∈P.T,di C S o):Calls prog 28 #[.pointer (some ⟨Y,0,none⟩)] w λev w'=>ev=.returned .nilIface/\∃S',zD C S P.R S'/\CL w' Y/\DK C ab7 X S' w'/\PF ab7 P P w w':=by
 obtain⟨pl,cl,hv⟩:=aX h.m.l;have c0:=h.m.c0;have c5:=h.m.c5;have c4:=h.m.c4;have hlen:=h.m.y.len;rw[hv,hL]at c5;rw[hY]at hlen;simp only[aA]at c5 hlen;have gM:=I (yT h false ⟨λh=>(by cases h),λh=>absurd h hT⟩);have HH:=I h;have Qf:Hid (∀W,PD B C ab7 X Y F ym S P W->Calls prog 70 #[.pointer (some ⟨Y,0,none⟩)] W λev w'=>ev=.returned (.tuple #[])/\∃S',zD C S P.R S'/\PD B C ab7 X Y F ym S' P w'/\PF ab7 P P W w'):=λW hW=>yO hW hN he hQ;clear h he hv hL hY;go_enter func28,ntmps28;go_wp2_with fail;refine(Z gM).mono ?_;rintro ev w2⟨rfl,b2⟩;have H2:=(Z HH).b b2;have eA:=I ((Z HH).fb b2);have Qi:=I ((Z Qf) w2 H2);clear gM b2 hlen c0 c4 c5 H2 HH Qf;go_wp2_with fail;refine(Z Qi).mono ?_;rintro ev w3⟨rfl,S',hLG,H3,P3⟩;have NW:=I hLG;have fY:=I ((Z eA).trans P3);have x0:=H3.m.c0;have x1:=H3.m.c1;have x2:=H3.m.c2;have x3:=H3.m.c3;have x4:=H3.m.c4;have x5:=H3.m.c5;have x6:=H3.m.c6;have f0:=H3.m.fz 0;have f1:=H3.m.fz 1;have f2:=H3.m.fz 2;have f3:=H3.m.fz 3;have f4:=H3.m.fz 4;have f5:=H3.m.fz 5;have f6:=H3.m.fz 6;have eD:=I H3;clear Qi eA hLG H3 P3;go_wp2_with fail;go_ret;refine⟨rfl,S',Z NW,?_,?_⟩
 ·obtain⟨y0,y1,y2,y3,y4,y5,y6⟩:=abb (v0:=.pointer none) (v1:=.int .i64 0) (v2:=.slice none 0 0) (v3:=.map none) (v4:=.map none) (v5:=.slice none 0 0) (v6:=.int .i64 0) x0 x1 x2 x3 x4 x5 x6;exact⟨y0,y1,y2,y3,y4,y5,y6,(((((((Z eD).m.tg.set _ _).set _ _).set _ _).set _ _).set _ _).set _ _).set _ _,λo=>by simp only[Ψ];exact(Z eD).m.fz o⟩
 ·obtain⟨G,O⟩:=(Z eD).shut (kp7 (S:=λb=>b=Y) (w:=w3) (Y:=Y) (v0:=.pointer none) (v1:=.int .i64 0) (v2:=.slice none 0 0) (v3:=.map none) (v4:=.map none) (v5:=.slice none 0 0) (v6:=.int .i64 0) rfl);exact⟨G,(Z fY).trans O⟩
end
section
variable {Y:Nat}{w w':World}{e:Nat->Addr}
theorem CL.b (h:CL w Y)(J:Below w.heap.size w w'):CL w' Y :=
 have K:=λj=>J.cell (p:=⟨Y,j,none⟩) h.tg.lt
 ⟨(K 0).trans h.c0,(K 1).trans h.c1,(K 2).trans h.c2,(K 3).trans h.c3,(K 4).trans h.c4,(K 5).trans h.c5,(K 6).trans h.c6,h.tg.b J,λo=>(J.frozen (p:=⟨Y,o,none⟩) h.tg.lt).trans (h.fz o)⟩
theorem uF (h:CL w Y)(he:dM w e)(x:Int):Calls prog 71 #[.pointer (some ⟨Y,0,none⟩),.int .i64 x] w λev w'=>ev=.returned (bc (e 3))/\w'=w:=by
 have c0:=h.c0;have v3:=he.v3;unfold bc at*;clear h he;go_enter func71,ntmps71;go_wp2;go_ret;exact⟨rfl,rfl⟩
theorem FO (h:CL w Y)(he:dM w e):Calls prog 28 #[.pointer (some ⟨Y,0,none⟩)] w λev w'=>ev=.returned (bc (e 3))/\w'=w:=by
 have c0:=h.c0;have v3:=he.v3;unfold bc at*;clear h he;go_enter func28,ntmps28;go_wp2;go_ret;exact⟨rfl,rfl⟩
theorem yY (h:CL w Y):Calls prog 18 #[.pointer (some ⟨Y,0,none⟩)] w λev w'=>ev=.returned (.int .i64 0)/\w'=w:=by
 have c2:=h.c2;clear h;go_enter func18,ntmps18;go_wp2;go_ret;exact⟨rfl,rfl⟩
theorem yZ (h:CL w Y):Calls prog 17 #[.pointer (some ⟨Y,0,none⟩)] w λev w'=>ev=.returned (.slice none 0 0)/\w'=w:=by
 have c5:=h.c5;have HC:=I (Sh.slices_Clone_int_nil 0 0 w);clear h;go_enter func17,ntmps17;go_wp2_with fail;refine(Z HC).mono ?_;rintro ev w1⟨rfl,rfl⟩;go_wp2;go_ret;exact⟨rfl,rfl⟩
theorem J4 (h:CL w Y)(he:dM w e)(x y:Int):Calls prog 15 #[.pointer (some ⟨Y,0,none⟩),.int .i64 x,.int .i64 y] w λev w'=>ev=.returned (.tuple #[bz 0 0,bc (e 3)])/\Below w.heap.size w w':=by
 have F1:=χ (γ w.heap.size w) (cB 0 0);have R1:=cQ w;have kH:=I (uF (h.b F1) (he.below F1) x);have cZ:=I F1;have fk:=I R1;clear h F1 R1 he;unfold bz bc at*;go_enter func15,ntmps15;go_upto_region 1 with(fail);generalize w.alloc (cB 0 0)=W at*;go_wp2_with fail;refine(Z kH).mono ?_;rintro ev w1⟨rfl,rfl⟩;clear kH;obtain⟨r0,r1,bQ,rt⟩:=Z fk;have f0:=bQ 0;have f1:=bQ 1;obtain⟨t0,t1⟩:=aW r0 r1 (.int .i64 0) (.int .i64 0);clear bQ;go_wp2;refine Θ (v:=.tuple #[.agg #[.int .i64 0,.int .i64 0],.iface 424 (.pointer (some (e 3)))]) (by simp[results,results15,go_sem,t0,t1];try rfl) rfl ?_;exact⟨rfl,((Z cZ).setCell (ζ _) _).setCell (ζ _) _⟩
theorem J5 (h:CL w Y)(he:dM w e)(x:Int)(o:Bl):Calls prog 19 #[.pointer (some ⟨Y,0,none⟩),.int .i64 x,.agg #[.int .i64 o.1,.int .i64 o.2]] w λev w'=>ev=.returned (bc (e 3))/\Below w.heap.size w w':=by
 have F1:=χ (γ w.heap.size w) (cB o.1 o.2);have kH:=I (uF (h.b F1) (he.below F1) x);have cZ:=I F1;obtain⟨oN,oA⟩:=o;unfold bc at*;simp only at*;clear h F1 he;go_enter func19,ntmps19;go_upto_region 1 with(fail);generalize w.alloc (cB oN oA)=W at*;go_wp2_with fail;refine(Z kH).mono ?_;rintro ev w1⟨rfl,rfl⟩;go_wp2;go_ret;exact⟨rfl,Z cZ⟩
end
theorem wu (t:Int)(w:World):(Instr.lookup 142 (.map none) (.int .i64 t) true).run prog w=.ok (.tuple #[.agg #[.int .i64 0,.int .i64 0],.bool false]) w:=by
 kernel_rfl
theorem y7 (t:Int)(ty:TypeId)(w:World):(Builtin.delete_ #[142,3] ty #[.map none,.int .i64 t]).run prog w=.ok (.tuple #[]) w:=by
 kernel_rfl
section
variable {Y:Nat}{w w':World}{e:Nat->Addr}
theorem uG (h:CL w Y)(t:Int):Calls prog 82 #[.pointer (some ⟨Y,0,none⟩),.int .i64 t] w λev w'=>ev=.returned (.tuple #[bz 0 0,.bool false])/\Below w.heap.size w w':=by
 have F1:=χ (γ w.heap.size w) (cB 0 0);have F2:=χ (γ (w.alloc (cB 0 0)).heap.size (w.alloc (cB 0 0))) (cB 0 0);have R2:=(cQ w).b F2;have c4:=(h.b F1).c4;have c42:=((h.b F1).b F2).c4;have q':=θ (w.alloc (cB 0 0)) #[.int .i64 0,.int .i64 0] 34;have q0:=q' 0;have q1:=q' 1;simp only[Δ,υ,ω]at q0 q1;have hlk:=wu t;have hdel:=y7 t;have eA:=I (bW F1 F2);have jS:=I R2;clear h F1 F2 R2 q';unfold bz at*;go_enter func82,ntmps82;go_upto_region 1 with(fail);generalize w.alloc (cB 0 0)=W at*;generalize KW:W.heap.size=b9 at*;go_upto_region 2 with(fail);generalize W.alloc (cB 0 0)=W2 at*;obtain⟨r0,r1,bQ,rt⟩:=Z jS;have f0:=bQ 0;have f1:=bQ 1;obtain⟨t0,t1⟩:=aW r0 r1 (.int .i64 0) (.int .i64 0);clear bQ;go_wp2_with (at_delete;refine jJ _ rfl _ _ 142 3 rfl rfl rfl (hdel _ _) ?_);refine Θ (v:=.tuple #[.agg #[.int .i64 0,.int .i64 0],.bool false]) (by simp[results,results82,go_sem,t0,t1];try rfl) rfl ?_;exact⟨rfl,((Z eA).setCell (ζ _) _).setCell (ζ _) _⟩
theorem BD (h:CL w Y)(he:dM w e)(t:Int):Calls prog 26 #[.pointer (some ⟨Y,0,none⟩),.int .i64 t] w λev w'=>ev=.returned (bc (e 3))/\Below w.heap.size w w':=by
 have nD:=I (uG h t);have HH:=I h;have HE:=I he;clear h he;unfold bz bc at*;go_enter func26,ntmps26;go_wp2_with fail;refine(Z nD).mono ?_;rintro ev w2⟨rfl,b2⟩;have b3:=bW b2 (χ (γ w2.heap.size w2) (cB 0 0));have c5:=((Z HH).b b3).c5;have v3:=((Z HE).below b3).v3;have HB:=I b3;have kS:=I (Sh.slices_Index_int_empty none 0 t (w2.alloc (cB 0 0)));rw[show Lib.idxOf [] t = -1 from rfl]at kS;unfold bc at v3;clear b2 b3 nD;go_upto_region 5 with(fail);generalize w2.alloc (cB 0 0)=W3 at*;go_wp2_with fail;refine(Z kS).mono ?_;rintro ev w4⟨rfl,rfl⟩;clear kS;go_wp2;go_ret;exact⟨rfl,Z HB⟩
end
section
variable {Y:Nat}{w w':World}{e:Nat->Addr}
theorem FT (h:CL w Y)(he:dM w e)(t:Int):Calls prog 20 #[.pointer (some ⟨Y,0,none⟩),.int .i64 t] w λev w'=>ev=.returned (.tuple #[bz 0 0,.bool false,bc (e 3)])/\Below w.heap.size w w':=by
 have F1:=χ (γ w.heap.size w) (cB 0 0);have R1:=cQ w;have nD:=I (uG (h.b F1) t);have cZ:=I F1;have fk:=I R1;have HH:=I (h.b F1);have HE:=I (he.below F1);have xU:(3:Nat)≠w.heap.size:=by
  have h3:=he.v3;unfold World.cell? at h3;cases J:w.heap[3]? with
  |none=>simp only[J]at h3;cases h3
  |some o=>have:=(Array.getElem?_eq_some_iff.mp J).1;omega
 clear h F1 R1 he;unfold bz bc at*;go_enter func20,ntmps20;go_upto_region 1 with(fail);generalize w.alloc (cB 0 0)=W at*;go_wp2_with fail;refine(Z nD).mono ?_;rintro ev w2⟨rfl,b2⟩;have F3:=χ (γ w2.heap.size w2) (cB 0 0);have b3:=bW b2 F3;have c5:=((Z HH).b b3).c5;have v3:=((Z HE).below b3).v3;have iq:=I ((Z fk).b b3);have fY:=I (bW (Z cZ) b3);have Js:=I (Sh.slices_Contains_int_empty none 0 t (w2.alloc (cB 0 0)));unfold bc at v3;clear b2 b3 F3 nD fk cZ;go_upto_region 5 with(fail);generalize w2.alloc (cB 0 0)=W3 at*;generalize w2.heap.size=b9 at*;go_wp2_with fail;refine(Z Js).mono ?_;rintro ev w4⟨rfl,rfl⟩;clear Js;obtain⟨r0,r1,bQ,rt⟩:=Z iq;have f0:=bQ 0;have f1:=bQ 1;obtain⟨t0,t1⟩:=aW r0 r1 (.int .i64 0) (.int .i64 0);clear bQ;go_wp2_with fail;go_region
 have wq:Hid (Below w.heap.size w ((w4.setCell ⟨w.heap.size,0,none⟩ (.int .i64 0)).setCell ⟨w.heap.size,1,none⟩ (.int .i64 0)).drew):=(((Z fY).setCell (ζ _) _).setCell (ζ _) _).drew;have XM:((w4.setCell ⟨w.heap.size,0,none⟩ (.int .i64 0)).setCell ⟨w.heap.size,1,none⟩ (.int .i64 0)).drew.cell? ⟨w.heap.size,0,none⟩=some (.int .i64 0):=t0;have XN:((w4.setCell ⟨w.heap.size,0,none⟩ (.int .i64 0)).setCell ⟨w.heap.size,1,none⟩ (.int .i64 0)).drew.cell? ⟨w.heap.size,1,none⟩=some (.int .i64 0):=t1;clear t0 t1 r0 r1 f0 f1 v3 fY iq c5;generalize((w4.setCell ⟨w.heap.size,0,none⟩ (.int .i64 0)).setCell ⟨w.heap.size,1,none⟩ (.int .i64 0)).drew=w5 at*;go_wp2;refine Θ (v:=.tuple #[.agg #[.int .i64 0,.int .i64 0],.bool false,.iface 424 (.pointer (some (e 3)))]) (by simp[results,results20,go_sem,XM,XN];try rfl) rfl ?_;exact⟨rfl,Z wq⟩
end
section
variable {w:World}{e:Nat->Addr}
theorem wE (he:dM w e)(y n:Int):Calls prog 14 #[.pointer none,.int .i64 y,.int .i64 n] w λev w'=>ev=.returned (.tuple #[.pointer none,bc (e 2)])/\Below w.heap.size w w':=by
 have v2:=he.v2;clear he;unfold bc at*;go_enter func14,ntmps14;go_wp2_with fail;go_quiet (fail);have J:=I (iB (γ w.heap.size w) nq);clear v2;generalize w.drewN nq=W at*;go_wp2;refine Θ (v:=.tuple #[.pointer none,.iface 424 (.pointer (some (e 2)))]) (by simp[results,results14,go_sem];try rfl) rfl ?_;exact⟨rfl,Z J⟩
theorem Ge (he:dM w e)(d:Nat)(y n:Int)(hn:¬(1<=n/\n<=16)):Calls prog 14 #[.pointer (some ⟨d,0,none⟩),.int .i64 y,.int .i64 n] w λev w'=>ev=.returned (.tuple #[.pointer none,bc (e 1)])/\Below w.heap.size w w':=by
 have v1:=he.v1;clear he;unfold bc at*;by_cases c1:n<1
 ·have d1:decide (n<1)=true:=by simpa using c1
  go_enter func14,ntmps14;go_wp2_with fail;go_quiet (fail);have J:=I (iB (γ w.heap.size w) nq);clear v1;generalize w.drewN nq=W at*;go_wp2;refine Θ (v:=.tuple #[.pointer none,.iface 424 (.pointer (some (e 1)))]) (by simp[results,results14,go_sem];try rfl) rfl ?_;exact⟨rfl,Z J⟩
 ·have d1:decide (n<1)=false:=by simpa using c1
  have d2:decide (n>16)=true:=by simp;omega
  have d3:decide (16<n)=true:=by simp;omega
  go_enter func14,ntmps14;go_wp2_with fail;go_quiet (fail);have J:=I (iB (γ w.heap.size w) nq);clear v1;generalize w.drewN nq=W at*;go_wp2;refine Θ (v:=.tuple #[.pointer none,.iface 424 (.pointer (some (e 1)))]) (by simp[results,results14,go_sem];try rfl) rfl ?_;exact⟨rfl,Z J⟩
end
end Pl
end Go.Proofs.YtcbmfakjfoggaaaGreatDoor
