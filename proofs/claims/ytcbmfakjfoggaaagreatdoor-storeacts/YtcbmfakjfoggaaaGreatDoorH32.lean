/- H32 -/
import Derived.Test.YtcbmfakjfoggaaaGreatDoorA0
import Derived.Test.YtcbmfakjfoggaaaGreatDoorH26
import Derived.Test.YtcbmfakjfoggaaaGreatDoorH30
set_option maxHeartbeats 0
set_option maxRecDepth 100000
namespace Go.Proofs.YtcbmfakjfoggaaaGreatDoor
open _root_.Go.Proofs.Tryz Go.RowKit Go.Maps
namespace Pl
open Fr Bd Zn Dz Sb Mg
inductive zD (C:Dc):Ds->List Bl->Ds->Prop
 |nil (S:Ds):zD C S [] S
 |snoc (S S1 S2:Ds) (l:List Bl) (o:Bl) (r:Option Nat) (h:zD C S l S1) (hg:yj C S1 0 o r S2) (hF:FA C S2):zD C S (l++[o]) S2
section
variable {B:Nat}{C:Dc}{ab7:Nat->Prop}{X:Nat->Option Obj}{Y F ym:Nat}{S S':Ds}{P:Ps}{w w':World}{e:Nat->Addr}
theorem yj.ab5 {x:Int}{o:Bl}{r:Option Nat}(h:yj C S x o r S'):S'.ab5<=S.ab5+1:=by
 cases h<;>simp
theorem yO (h:PD B C ab7 X Y F ym S P w)(hN:C.w0.heap.size<=C.N0)(he:dM C.w0 e)(hQ:S.ab5+P.R.length<=900000):
  Calls prog 70 #[.pointer (some ⟨Y,0,none⟩)] w λev w'=>ev=.returned (.tuple #[])/\∃S',zD C S P.R S'/\PD B C ab7 X Y F ym S' P w'/\PF ab7 P P w w':=by
 obtain⟨pr,cr,lU⟩:=aX h.m.r;have c2:=h.m.c2;rw[lU]at c2;have A8:=I lU;have HD0:=I h;have HF0:=I (PF.refl ab7 P w);have HE:=I he;have HQ:=I hQ;generalize hn:P.R.length=n at*;have gM:=I hn;clear h lU he hQ hn;go_enter func70,ntmps70;go_wp2_with fail;go_loopw [9] (λs wr=>∃(k:Nat) (S1:Ds),s=.int .i64 k/\k<=n/\Hid (S1.ab5<=S.ab5+k)/\Hid (zD C S (P.R.take k) S1)/\Hid (PD B C ab7 X Y F ym S1 P wr)/\Hid (PF ab7 P P w wr)) (λs _=>n-(intOf s).toNat)
 case atStart=>exact⟨0,S,rfl,Γ _,by show S.ab5<=S.ab5+0;omega,zD.nil S,HD0,HF0⟩
 case round =>
  clear HD0 HF0 c2;obtain⟨k,S1,rfl,D,XO,Qf,HD,HF⟩:=hrel;by_cases vh:k<n
  ·have XP:(k:Int)<(n:Int):=by omega
   have EZ:(0:Int)<=k:=by omega
   have hn9:n<=900000:=by have:=Z HQ;omega
   have Qg:IntKind.i64.wrap ((k:Int)+1)=(k:Int)+1:=aB _ (by omega);obtain⟨x,y,jl⟩:∃x y,P.R[k]?=some (x,y):=⟨_,_,ξ (by rw[Z gM];exact vh)⟩;have hr:=(Z HD).m.r;rw[Z A8,Z gM]at hr;obtain⟨gr,rfl,y0,y1⟩:=Td hr (Z gM) jl;have sU:=I jl;have F1:=χ (γ wr.heap.size wr) (cB x y);have q':=θ wr #[.int .i64 x,.int .i64 y] 34;have q0:=q' 0;have q1:=q' 1;simp only[Δ,υ,ω]at q0 q1;have H1:=(Z HD).b F1;have cZ:=I ((Z HF).trans ((Z HD).fb F1));have c0:=H1.m.c0;have uC:=I ((H1.b (dw _)).k.give hN (by have:=Z HQ;have:=Z XO;omega) (Z HE).Ro 0 (x,y));have dD:=I H1;clear F1 q' H1 HD HF hr jl;simp only at uC;go_upto_region 3 with(fail);generalize wr.alloc (cB x y)=W1 at*;generalize wr.heap.size=b9 at*;go_region_with ((go_at_call 148;refine(Z uC).mono ?_;rintro ev w5⟨r,S',rfl,hG,D5,U5⟩));all_goals
    obtain⟨H5,P5⟩:=((Z dD).b (dw _)).turn D5 U5;have gW:=I H5;have iY:=I (((Z cZ).trans ((Z dD).fb (dw _))).trans P5);have Te:Hid (zD C S (P.R.take (k+1)) S'):=by
     show zD C S (P.R.take (k+1)) S';rw[pL (Z sU)];exact .snoc S S1 S' _ _ r (Z Qf) hG (DK.fa D5)
    have HQ2:Hid (S'.ab5<=S.ab5+(k+1)):=by
     show S'.ab5<=S.ab5+(k+1);have:=hG.ab5;have:=Z XO;omega
    clear H5 P5 D5 U5 hG dD cZ uC y0 y1 q0 q1 c0;go_wp2_with fail;go_roundw;case rel=>exact⟨k+1,S',by go_num,by omega,HQ2,Te,gW,iY⟩
    case measure=>simp[intOf];omega
  ·obtain rfl:k=n:=by omega
   have kn:¬(k:Int)<k:=by omega
   have Te:Hid (zD C S P.R S1):=by
    show zD C S P.R S1;have:=Z Qf;rw[<- Z gM,b_]at this;exact this
   go_wp2_with fail;go_end0;exact⟨rfl,S1,Z Te,Z HD,Z HF⟩
end
section
variable {B:Nat}{C:Dc}{ab7:Nat->Prop}{X:Nat->Option Obj}{Y F ym:Nat}{S S':Ds}{P:Ps}{w w':World}{e:Nat->Addr}{x y:Int}{u:Bool}{r:Option Nat}{o:Bl}
theorem mh {n:Nat}(h:mV C S x y u (some n) o S'):o=(0,0):=by cases h<;>rfl
theorem PD.bare (h:PD B C ab7 X Y F ym S P w):DK C ab7 X S w:=by
 refine h.k.iV (T:=λ_=>False) (Kp.refl _ w) (λ_ _ _ _ _ _ _ _=>id) (λ_ h=>h.elim) (λ_ h=>h.elim) (λj o e=>?_) (λj E=>⟨h.iH j E,ε (ε E)⟩);have hx2:X2 F ym X w j=some o:=by
  unfold X2;rw[ai,e];rintro(rfl|rfl)
  ·rw[h.xt.1]at e;cases e
  ·rw[h.xt.2]at e;cases e
 obtain⟨e1,e2⟩:=h.k.map hx2;exact⟨e1,e2,ε ⟨o,hx2⟩⟩
inductive yP (C:Dc)(y:Int):Ds->List Bl->Ds->Prop
 |nil (S:Ds):yP C y S [] S
 |snoc (S S1 S2:Ds) (l:List Bl) (o:Bl) (h:yP C y S l S1) (hT:mV C S1 0 y true none o S2) (hF:FA C S2):yP C y S (l++[o]) S2
theorem qi (h:mV C S x y u r o S'):S'.ab5=S.ab5:=by cases h<;>rfl
theorem yP.ab5 {l:List Bl}(h:yP C y S l S'):S'.ab5=S.ab5:=by
 induction h with
 |nil=>rfl
 |snoc S1 S2 l o h hT hF ih=>exact(qi hT).trans ih
theorem NV (h:DK C ab7 X S w)(hN:C.w0.heap.size<=C.N0)(he:dM C.w0 e)(Sy:C.w0.heap.size<=B)(hB:B<=w.heap.size){n:Nat}(hn:1<=n/\n<=16)(y:Int)(hQ:S.ab5<=800000):
  Calls prog 14 #[.pointer (some ⟨C.d,0,none⟩),.int .i64 y,.int .i64 n] w λev w' =>
   (ev=.returned (.tuple #[.pointer (some ⟨w.heap.size+1+1,0,none⟩),.nilIface])/\∃S' R vr,R.length=n/\yP C y S R S'/\PD B C ab7 X (w.heap.size+1+1) w.heap.size (w.heap.size+1) S' {pG n with R:=R,vr:=vr} w'/\PF ab7 (pG n) {pG n with R:=R,vr:=vr} w w') \/
   (∃m S1 S2 S' R,ev=.returned (.tuple #[.pointer none,bc (e m)])/\R.length<n/\yP C y S R S1/\mV C S1 0 y true (some m) (0,0) S2/\FA C S2/\zD C S2 R S'/\DK C ab7 X S' w'/\PF ab7 (pG n) (pG n) w w'):=by
 have yq:=λj (E:ab7 j)=>(DQ.uk h j E).lt;have H0:=I (PD.start h Sy hB n);have F0:=I (PF.below (P:=pG n) yq (Ba w C.d n));have HV:=I yq;have WL:=I (yP.nil (C:=C) (y:=y) S);have HQ:=I hQ;have HE:=I he;have d1:decide ((n:Int)<1)=false:=by simp;omega
 have d2:decide ((n:Int)>16)=false:=by simp;omega
 have d3:decide ((16:Int)<(n:Int))=false:=by simp;omega
 clear yq h he hQ;unfold qg at*;have f_:=@run_makeMap prog;go_enter func14,ntmps14;go_upto_region 6 with(fail);clear f_;generalize((w.alloc (.map #[] 0)).alloc (.map #[] 0)).alloc (.cells #[.pointer (some ⟨C.d,0,none⟩),.int .i64 n,.slice none 0 0,.map (some w.heap.size),.map (some (w.heap.size+1)),.slice none 0 0,.int .i64 0] 144)=W at*;go_wp2_with fail;go_loopw [28] (λs wr=>∃(j:Nat) (S1:Ds) (R:List Bl) (vr:Value),s=.int .i64 j/\j<=n/\R.length=j/\Hid (yP C y S R S1)/\Hid (PD B C ab7 X (w.heap.size+1+1) w.heap.size (w.heap.size+1) S1 {pG n with R:=R,vr:=vr} wr)/\Hid (PF ab7 (pG n) {pG n with R:=R,vr:=vr} w wr)) (λs _=>n-(intOf s).toNat)
 case atStart=>exact⟨0,S,[],.slice none 0 0,rfl,Γ _,rfl,WL,H0,F0⟩
 case round =>
  clear H0 F0 WL;obtain⟨j,S1,R,vr,rfl,E,hl,yx,hD,hF⟩:=hrel;by_cases Mt:j<n
  ·have qm:(j:Int)<(n:Int):=by omega
   have Ul:=Z hD;have gL:=I (Ul.k.take hN (Z HE).Ro 0 y true);clear Ul;go_wp2_with fail;refine(Z gL).mono ?_;rintro ev w2⟨r,⟨oN,oA⟩,S2,rfl,hT,D2,U2⟩;obtain⟨H2,P2⟩:=(Z hD).turn D2 U2;have ni:=I hT;have eA:=(Z hF).trans P2;have F3:=χ (γ w2.heap.size w2) (cB oN oA);have q':=θ w2 #[.int .i64 oN,.int .i64 oA] 34;have q0:=q' 0;have q1:=q' 1;simp only[Δ,υ,ω]at q0 q1;have H3:=H2.b F3;have fY:=I (eA.trans (H2.fb F3));have c2:=H3.m.c2;have f2:=H3.m.fz 2;have r3:=H3.m.r;have T3:=H3.m.tg;simp only at c2 r3;obtain⟨pp,cp,lU⟩:=aX r3;rw[hl]at lU;have A8:=I lU;rw[lU]at c2;rw[lU,hl]at r3;have eD:=I H3;have hBs:B<=w2.heap.size:=σ H2.m.ge (ck H2.m.tg.lt);clear gL hT D2 U2 H2 P2 eA F3 q' H3 hD hF lU;cases r with
   |none =>
    have SA:Hid (yP C y S (R++[(oN,oA)]) S2):=.snoc S S1 S2 R _ (Z yx) (Z ni) (DK.fa (Z eD).k);unfold bz wO at*;simp only at*;go_upto_region 12 with(fail);generalize w2.alloc (cB oN oA)=W3 at*;have BA:Below W3.heap.size W3 (W3.alloc (cB oN oA)).drew:=(χ (γ _ _) _).drew;have iE:=aN r3 BA;have ir:=T3.b BA;have hNb:B<=(W3.alloc (cB oN oA)).drew.heap.size:=σ (σ (Z eD).m.ge (ck T3.lt)) BA.size;have j9:=(BA.cell (p:=⟨w.heap.size+1+1,2,none⟩) T3.lt).trans c2;have j_:=(BA.frozen (p:=⟨w.heap.size+1+1,2,none⟩) T3.lt).trans f2;go_wp2_with fail;go_region_law (refine lT rfl (.tmp 45) (.tmp 47) rfl B (.slice pp j cp) j (flat R) (by simp[Act.eval]) iE (by simp[Act.eval]) (by omega) hNb ?_;intro g4 c4 w4 o4 q4 hg4 kE;have e4:=q4.block (w.heap.size+1+1) ir.lt (d_ iE ir (by decide));have sQ:w4.cell? ⟨w.heap.size+1+1,2,none⟩=some (.slice pp j cp):=(η (a:=⟨w.heap.size+1+1,2,none⟩) e4).trans j9;have ue:w4.frozen? ⟨w.heap.size+1+1,2,none⟩=false:=(π (a:=⟨w.heap.size+1+1,2,none⟩) e4).trans j_);all_goals
     have ui:w4.ownsRow B 34 2 (.slice (some ⟨g4,0,none⟩) (j+1) c4) (R++[(oN,oA)]).length (flat (R++[(oN,oA)])):=by
      rw[φ,hl,bM];exact o4
     have hk4:Kp (λb=>OB vr b) (W3.alloc (cB oN oA)).drew w4:=⟨q4.os,q4.tape,q4.output,q4.size,λk D hn=>q4.block k D (λe=>hn (by rw[Z A8];exact e.symm))⟩;have hG:∀b,OB (.slice (some ⟨g4,0,none⟩) (j+1) c4) b->OB vr b\/W3.heap.size<=b:=λb J=>by
      obtain rfl:g4=b:=by simpa[OB,Value.ownBlock]using J
      rcases hg4 with h|h
      ·exact ε (by rw[Z A8];exact h)
      ·right;have G:=BA.size;omega
     obtain⟨H5,P5⟩:=(Z eD).push (o:=(oN,oA)) BA ui hk4 hG;have gW:=I H5;have iY:=I ((Z fY).trans P5);have rH:(R++[(oN,oA)]).length=j+1:=by simp[hl]
     clear hG hk4 ui H5 P5 o4 q4 hg4 kE e4 sQ ue j9 j_ iE BA ir hNb;generalize w4.setCell ⟨w.heap.size+1+1,2,none⟩ (.slice (some ⟨g4,0,none⟩) (j+1) c4)=w5 at*;go_wp2_with fail;go_roundw;case rel=>exact⟨j+1,S2,R++[(oN,oA)],_,by go_num,by omega,rH,SA,gW,iY⟩
     case measure=>simp[intOf];omega
   |some m =>
    have ho:=mh (Z ni);simp only[fR]at ho;obtain⟨rfl,rfl⟩:=ho;have TU:S2.ab5=S.ab5:=(qi (Z ni)).trans (yP.ab5 (Z yx));have Qf:=I (yO (Z eD) hN (Z HE) (by have:=Z HQ;show S2.ab5+R.length<=900000;omega));unfold bz wO bc at*;simp only at*;clear c2 f2 r3 T3 q0 q1 A8;go_upto_region 9 with(fail);generalize w2.alloc (cB 0 0)=W3 at*;go_wp2_with fail;refine(Z Qf).mono ?_;rintro ev w4⟨rfl,S',hL,H4,P4⟩;have NT:=I H4.bare;have jI:=(Z fY).trans P4;have HFF:Hid (PF ab7 (pG n) (pG n) w w4):=⟨jI.v,jI.s,jI.l,jI.z,λ_ h=>ε h,λ_ h=>ε h⟩;have NW:=I hL;have HFA:=I (DK.fa (Z eD).k);clear Qf hL H4 P4 jI eD fY;go_wp2;refine Θ (v:=.tuple #[.pointer none,.iface 424 (.pointer (some (e m)))]) (by simp[results,results14,go_sem];try rfl) rfl ?_;exact δ ⟨m,S1,S2,S',R,rfl,by omega,Z yx,Z ni,Z HFA,Z NW,Z NT,Z HFF⟩
  ·obtain rfl:j=n:=by omega
   have kn:¬(j:Int)<j:=by omega
   go_wp2_with fail;go_ret2;exact ε ⟨rfl,S1,R,hl,Z yx,vr,Z hD,Z hF⟩
end
end Pl
end Go.Proofs.YtcbmfakjfoggaaaGreatDoor
