/- J2 -/
import Derived.Test.YtcbmfakjfoggaaaGreatDoorA0
import Derived.Test.YtcbmfakjfoggaaaGreatDoorJ1
import Derived.Test.YtcbmfakjfoggaaaGreatDoorH33
import Derived.Test.YtcbmfakjfoggaaaGreatDoorH32
import Derived.Test.YtcbmfakjfoggaaaGreatDoorH35
set_option maxHeartbeats 0
set_option maxRecDepth 100000
namespace Go.Proofs.YtcbmfakjfoggaaaGreatDoor
open _root_.Go.Proofs.Tryz Go.RowKit Go.Maps
namespace Pl
open Fr Bd Zn Dz Sb Mg
section
variable {B:Nat}{C:Dc}{ab7:Nat->Prop}{X:Nat->Option Obj}{Y F ym m s:Nat}{S S':Ds}{P P':Ps}{w w':World}{ax:cu}{e:Nat->Addr}
def Lone (S:Ds)(P:Ps):Prop:=PI S P/\P.L=[P.tk]/\P.ab6=[]
def Ff (B:Nat)(C:Dc)(X:Nat->Option Obj)(Y F ym:Nat)(e:Nat->Addr)(P:Ps)(x y:Int)(Φ : Bl->Ds->Ps->Prop)(mJ:Ds->Ps->Prop)(ab7:Nat->Prop)(W:World):Prop :=
 Calls prog 15 #[.pointer (some ⟨Y,0,none⟩),.int .i64 x,.int .i64 y] W λev w' =>
  (∃(o:Bl) (S':Ds) (P':Ps),ev=.returned (.tuple #[bz o.1 o.2,.nilIface])/\PD B C ab7 X Y F ym S' P' w'/\PF ab7 P P' W w'/\Φ o S' P') \/
  (∃(S':Ds) (P':Ps),ev=.returned (.tuple #[bz 0 0,bc (e 7)])/\PD B C ab7 X Y F ym S' P' w'/\PF ab7 P P' W w'/\Lone S' P'/\mJ S' P')
theorem ql (h:bR B C ab7 X Y F ym S P s m ax w)(he:dM C.w0 e)(_h12:11<C.w0.heap.size){x y:Int}(Φ : Bl->Ds->Ps->Prop)(mJ:Ds->Ps->Prop)
  (HT:∀ab7 W,bR B C ab7 X Y F ym S P s m ax W->Ff B C X Y F ym e P x y Φ mJ ab7 W):
  Calls prog 103 #[.pointer (some ⟨s,0,none⟩),.int .i64 x,.int .i64 y] w λev w' =>
   (∃(o:Bl) (S':Ds) (P':Ps),ev=.returned (.tuple #[bz o.1 o.2,.nilIface])/\bR B C ab7 X Y F ym S' P' s m ax w'/\PF ab7 P P' w w'/\Φ o S' P') \/
   (∃(S':Ds) (P':Ps) (ic:Value),ev=.returned (.tuple #[bz 0 0,bc (e 7)])/\bR B C ab7 X Y F ym S' {P' with L:=[],vl:=ic} s m ax w'/\PF ab7 P {P' with L:=[],vl:=ic} w w'/\mJ S' P'):=by
 have F1:=χ (γ w.heap.size w) (cB 0 0);have R1:=cQ w;have H1:=h.more F1 (ζ _) R1.tg;have cZ:=I (h.d.fb F1);have HC:=I (HT _ _ H1);unfold Ff at HC;have fk:=I R1;have HV:=I h.d.uu;have HE:=I he;have c0:=H1.k.c0;have Pn:=I H1;clear h F1 R1 H1 he HT;unfold bz at*;go_enter func103,ntmps103;go_upto_region 1 with(fail);generalize w.alloc (cB 0 0)=W at*;go_wp2_with fail;refine(Z HC).mono ?_;rintro ev w2(⟨⟨oN,oA⟩,S2,P2,rfl,D2,F2,yx⟩|⟨S2,P2,rfl,D2,F2,hLn,vX⟩)
 ·as_aux_lemma =>
  have H2:=(Z Pn).pool D2 F2;have R2:=(Z fk).blk (F2.v w.heap.size (δ rfl));have F3:=χ (γ w2.heap.size w2) (cB oN oA);have H3:=H2.b F3;have R3:=R2.b F3;have fY:=I (((Z cZ).trans (F2.mono λj E=>ε E)).trans ((H2.d.fb F3).mono λj E=>ε E));have HQ:=I (Mg.Bx.new w2 oN oA);have q':=θ w2 #[.int .i64 oN,.int .i64 oA] 34;have q0:=q' 0;have q1:=q' 1;simp only[Δ,υ,ω]at q0 q1;have v7:=((Z HE).below (DQ.b0 H3.d.k)).v7;have HN:=λW=>Jk (e 7) W;have eD:=I H3;have iq:=I R3;have WL:=I yx;clear HC D2 F2 H2 R2 F3 H3 R3 yx q' Pn fk cZ c0 HE;unfold bc at*;simp only at*;go_upto_region 4 with(fail);generalize w2.alloc (cB oN oA)=W3 at*;generalize w2.heap.size=b9 at*;obtain⟨r0,r1,bQ,rt⟩:=Z iq;have f0:=bQ 0;have f1:=bQ 1;clear bQ;go_wp2_with fail;refine(HN _).mono ?_;rintro ev w4⟨rfl,rfl⟩;clear HN v7;obtain⟨t0,t1⟩:=aW r0 r1 (.int .i64 oN) (.int .i64 oA);go_wp2;refine Θ (v:=.tuple #[.agg #[.int .i64 oN,.int .i64 oA],.nilIface]) (by simp[results,results103,go_sem,t0,t1];try rfl) rfl ?_;exact ε ⟨(oN,oA),S2,P2,rfl,((((Z eD).h_ (δ rfl) 0 _).h_ (δ rfl) 1 _).less λj E=>ε E),((Z fY).box (Z HV) (ζ _) 0 _).box (Z HV) (ζ _) 1 _,Z WL⟩
 ·as_aux_lemma =>
  have H2:=(Z Pn).pool D2 F2;have R2:=(Z fk).blk (F2.v w.heap.size (δ rfl));have F3:=χ (γ w2.heap.size w2) (cB 0 0);have T9:=bB w2 #[.int .i64 0,.int .i64 0] 34;have H3:=H2.more F3 (ζ _) T9;have R3:=R2.b F3;have fY:=I (((Z cZ).trans (F2.mono λj E=>ε E)).trans ((H2.d.fb F3).mono λj E=>ε E));have q':=θ w2 #[.int .i64 0,.int .i64 0] 34;have q0:=q' 0;have q1:=q' 1;simp only[Δ,υ,ω]at q0 q1;have v7:=((Z HE).below (DQ.b0 H3.d.k)).v7;have c03:=H3.k.c0;have HN:=λW=>u9 (e 7) W;obtain⟨hI,hL,hY⟩:=hLn;have HWA:=I (rP H3.d.m (by rw[hL];simp));rw[hL]at HWA;simp only[ag]at HWA;have h9:w2.heap.size<(w2.alloc (cB 0 0)).heap.size:=by simp
  have HCN:Hid (∀W,Below (w2.alloc (cB 0 0)).heap.size (w2.alloc (cB 0 0)) W->Calls prog 26 #[.pointer (some ⟨Y,0,none⟩),.int .i64 P2.tk] W λev w'=>ev=.returned .nilIface/\∃ic,PD B C (λj=>(ab7 j\/j=w.heap.size)\/j=w2.heap.size) X Y F ym S2 {P2 with L:=[],vl:=ic} w'/\PF (λj=>(ab7 j\/j=w.heap.size)\/j=w2.heap.size) P2 {P2 with L:=[],vl:=ic} W w'):=λW J=>y9 (ab9:=[]) (L:=[]) (H3.d.b J) hI (by rw[hY];rfl) hL (by simp);have eD:=I H3;have iq:=I R3;have DF:=I vX;clear HC D2 F2 H2 R2 F3 H3 R3 vX q' Pn fk cZ c0 HE hI hL hY T9;unfold bc at*;simp only at*;go_upto_region 4 with(fail);generalize w2.alloc (cB 0 0)=W3 at*;generalize w2.heap.size=b9 at*;go_wp2_with fail;refine(HN _).mono ?_;rintro ev w4⟨rfl,rfl⟩;clear HN v7;go_wp2_with fail;refine(Z HWA).mono ?_;rintro ev w5⟨v5,rfl,o5,b5⟩;obtain⟨g5,c5,rfl,_⟩:=o5.form (by omega);have x5:=o5.cellAt 0 (by simp);simp only[dX,dL,υ]at x5;have H5:=(Z eD).b b5;have c05:=H5.k.c0;have y0:=(b5.cell (p:=⟨b9,0,none⟩) h9).trans q0;have y1:=(b5.cell (p:=⟨b9,1,none⟩) h9).trans q1;have kE:=fV o5;have DJ:¬OB P2.vl g5:=λq=>by
   have G:=(ay (Z eD).d.m.l q).1.lt;have O:=(ay o5 (b:=g5) rfl).2;omega
  have HK6:Hid (∀(W:World) (ic:Value),PD B C (λj=>(ab7 j\/j=w.heap.size)\/j=b9) X Y F ym S2 {P2 with L:=[],vl:=ic} W->PF (λj=>(ab7 j\/j=w.heap.size)\/j=b9) P2 {P2 with L:=[],vl:=ic} w5.drew W->W.cell? ⟨s,0,none⟩=some (.pointer (some ⟨Y,0,none⟩))/\W.cell? ⟨g5,0,none⟩=some (.int .i64 P2.tk)):=λW ic hD hF=>by
   have e1:W.heap[g5]?=w5.heap[g5]?:=(hF.l g5 (kE.b (dw w5)) DJ).trans ((dw w5).block g5 kE.lt);exact⟨((H5.b (dw w5)).pool hD hF).k.c0,(η (a:=⟨g5,0,none⟩) e1).trans x5⟩
  have H9:b9<w5.heap.size:=ι h9 b5.size;have xI:=I ((Z HCN) w5.drew (b5.drew));have gW:=I (H5.b (dw w5));have iY:=I (((Z fY).trans (((Z eD).d.fb b5).mono λj E=>ε (ε E))).trans ((H5.d.fb (dw w5)).mono λj E=>ε (ε E)));have mU:=I (((Z iq).b b5).b (dw w5));clear HWA o5 b5 H5 eD iq fY HCN c03 q0 q1 h9 kE DJ;go_wp2_with fail;have i0:IntKind.i64.wrap ((1:Int)-1)=0:=by decide
  have i1:IntKind.i64.wrap (((1:Nat):Int)-1)=0:=by decide
  have i2:(0:Int)<((1:Nat):Int):=by decide
  have i3:(0:Int)<(1:Int):=by decide
  have i4:(0:Int)<=0:=by decide
  have i5:IntKind.i64.wrap 0=0:=by decide
  go_region_held3 (λw'=>w'.cell? ⟨s,0,none⟩=some (.pointer (some ⟨Y,0,none⟩))/\w'.cell? ⟨g5,0,none⟩=some (.int .i64 P2.tk)) (first|(go_keep;done)|assumption) ((go_at_call 26;refine(Z xI).mono ?_;rintro ev w6⟨rfl,ic,kH,F6⟩;have JM:=(Z HK6) w6 ic kH F6));all_goals
   have H6:=I ((Z gW).pool kH F6);have KW:w6.heap[b9]?=w5.drew.heap[b9]?:=F6.v b9 (δ rfl);have z0:w6.cell? ⟨b9,0,none⟩=some (.int .i64 0):=(η (a:=⟨b9,0,none⟩) KW).trans (((dw w5).cell (p:=⟨b9,0,none⟩) H9).trans y0);have z1:w6.cell? ⟨b9,1,none⟩=some (.int .i64 0):=(η (a:=⟨b9,1,none⟩) KW).trans (((dw w5).cell (p:=⟨b9,1,none⟩) H9).trans y1);obtain⟨r0,r1,bQ,rt⟩:=(Z mU).blk (F6.v w.heap.size (ε (δ rfl)));have f0:=bQ 0;have f1:=bQ 1;have Dh:=I ((Z iY).trans (F6.mono λj E=>ε (ε E)));clear xI gW iY mU HK6 JM x5 y0 y1 c05 kH F6 KW bQ rt;obtain⟨t0,t1⟩:=aW r0 r1 (.int .i64 0) (.int .i64 0);go_wp2;refine Θ (v:=.tuple #[.agg #[.int .i64 0,.int .i64 0],.iface 424 (.pointer (some (e 7)))]) (by simp[results,results103,go_sem,t0,t1];try rfl) rfl ?_;exact δ ⟨S2,P2,ic,rfl,((((Z H6).h_ (ε (δ rfl)) 0 _).h_ (ε (δ rfl)) 1 _).less λj E=>ε (ε E)),((Z Dh).box (Z HV) (ζ _) 0 _).box (Z HV) (ζ _) 1 _,Z DF⟩
end
structure eU (ab7:Nat->Prop)(P P':Ps)(w w':World):Prop where
 f:FR P P' w w'
 v:∀j,ab7 j->w'.heap[j]?=w.heap[j]?
 r':∀j,OB P'.vr j->OB P.vr j\/w.heap.size<=j
section
variable {ab7:Nat->Prop}{P P' P1 P2:Ps}{w w' w1:World}{N m:Nat}
theorem PF.fv (h:PF ab7 P P' w w'):eU ab7 P P' w w':=⟨h.fr,h.v,h.r'⟩
theorem eU.below (hV:∀j,ab7 j->j<w.heap.size)(J:Below w.heap.size w w'):eU ab7 P P w w':=⟨FR.below J,λj E=>J.block j (hV j E),λ_ h=>ε h⟩
theorem eU.trans (h:eU ab7 P P1 w w1)(k:eU ab7 P1 P2 w1 w'):eU ab7 P P2 w w':=⟨h.f.trans k.f,λj E=>(k.v j E).trans (h.v j E),λj E=>by
 rcases k.r' j E with G|G
 ·exact h.r' j G
 ·exact δ (σ h.f.z G)⟩
theorem eU.own (D:Kp (qa N m w) w w')(hm:∃o,w.heap[m]?=some o/\kind o=none)(hV:∀j,ab7 j->Tag w j 34):eU ab7 P P w w':=⟨FR.own D hm,λj E=>D.blk j (hV j E).lt (λJ=>by
 rcases J.2 with⟨H8,G,O⟩|rfl
 ·refine(hV j E).ne G (λq=>?_) rfl;subst q;revert O;decide
 ·obtain⟨o,e1,e2⟩:=hm;exact aj e1 e2 (hV j E) rfl),λ_ h=>ε h⟩
end
def Ig (B:Nat)(C:Dc)(ab7:Nat->Prop)(X:Nat->Option Obj)(Y F ym s m:Nat)(P:Ps)(ax:cu)(e:Nat->Addr)(Φ : Bl->Ds->Ps->Prop)(mJ:Ds->Ps->Prop)(w:World)(ev:Ending)(w':World):Prop :=
   (ev=.returned (.tuple #[.int .i64 ((ax.last:Int)+1),.nilIface])/\∃(o:Bl) (S':Ds) (P':Ps) (b q':Nat) (X':Nat->Option Obj),Φ o S' P'/\eU ab7 P P' w w' /\
    bR B C ab7 X' Y F ym S' P' s m {ax with last:=ax.last+1,q:=ax.q+1,n:=ax.n+1,f:=mE ax.f ((ax.last:Int)+1) (some b),g:=ma ax.g b ⟨o,List.replicate ax.sz 0,1,q'⟩} w') \/
   (ev=.returned (.tuple #[.int .i64 0,bc (e 7)])/\∃(S':Ds) (P':Ps) (ic:Value),mJ S' P'/\eU ab7 P {P' with L:=[],vl:=ic} w w'/\bR B C ab7 X Y F ym S' {P' with L:=[],vl:=ic} s m ax w')
section
variable {B:Nat}{C:Dc}{ab7:Nat->Prop}{X:Nat->Option Obj}{Y F ym m s:Nat}{S:Ds}{P:Ps}{w w':World}{ax:cu}{e:Nat->Addr}{pg:Nat}{S':Ds}{P':Ps}{x:Int}{u:Bool}{r:Option Nat}{o:Bl}{l:List Bl}
theorem oJ (h:bR B C ab7 X Y F ym S P s m ax w)(he:dM C.w0 e)(Hh:11<C.w0.heap.size){x y:Int}(Φ : Bl->Ds->Ps->Prop)(mJ:Ds->Ps->Prop)(hq:ax.q<1000000)(hlast:ax.last<1000000)
  (HT:∀ab7 W,bR B C ab7 X Y F ym S P s m ax W->Ff B C X Y F ym e P x y Φ mJ ab7 W):
  Calls prog 35 #[.pointer (some ⟨s,0,none⟩),.int .i64 x,.int .i64 y] w λev w'=>Ig B C ab7 X Y F ym s m P ax e Φ mJ w ev w':=by
 have HC:=I (ql h he Hh Φ mJ HT);have HZ:=I (And.intro hq hlast);have ze:=h.k.oP;have HMB:=I (nD ax.sz ze.2);clear h he HT;unfold bz at*;go_enter func35,ntmps35;go_wp2_with fail;refine(Z HC).mono ?_;rintro ev w2(⟨⟨oN,oA⟩,S2,P2,rfl,H2,F2,yx⟩|⟨S2,P2,ic,rfl,H2,F2,vX⟩)
 ·as_aux_lemma =>
  have F3:=χ (γ w2.heap.size w2) (cB oN oA);have H3:=I (H2.b F3);have WL:=I yx;have q':=θ w2 #[.int .i64 oN,.int .i64 oA] 34;have q0:=q' 0;have q1:=q' 1;simp only[Δ,υ,ω]at q0 q1;have T9:=bB w2 #[.int .i64 oN,.int .i64 oA] 34;have c4:=(Z H3).k.c4;have f4:=(Z H3).k.fz 4;have hw:IntKind.i64.wrap ((ax.last:Int)+1)=(ax.last:Int)+1:=aB _ (by have:=(Z HZ).2;omega);have e1:((ax.last+1:Nat):Int)=(ax.last:Int)+1:=by omega
  have oG:C.w0.heap.size<=s:=σ H2.d.hB H2.k.ge.1;have hfn:ax.f (ax.last+1:Nat)=none:=by
   cases hf:ax.f (ax.last+1:Nat)with
   |none=>rfl
   |some b =>
    have:=((Z H3).k.k _ b hf).2.2.2.2.1;omega
  have Ip:=I hfn;have hgm:C.w0.heap.size<=m:=σ H2.d.hB H2.k.ge.2;have HS:=(Z H3).k.last (n:=ax.last+1) ⟨by omega,by have:=(Z HZ).2;omega⟩;have K4:=(Z H3).own (Kp.set _ s 4 (.int .i64 (ax.last+1:Nat)) ⟨oG,ε ⟨189,(Z H3).k.tg,by decide⟩⟩) HS;have F8:=((F2.fv).trans (eU.below (P:=P2) (λj E=>(H2.d.iH j E).lt) F3)).trans (eU.own (Kp.set _ s 4 (.int .i64 (ax.last+1:Nat)) ⟨oG,ε ⟨189,(Z H3).k.tg,by decide⟩⟩) (Z H3).k.bq.aQ (λj E=>(Z H3).d.iH j E));have F9:w2.heap.size<((w2.alloc (cB oN oA)).setCell ⟨s,4,none⟩ (.int .i64 ((ax.last:Int)+1))).heap.size:=by simp
  have hne:w2.heap.size≠s:=λq=>T9.ne (Z H3).k.tg (by decide) q;have b0:=(bu (a:=⟨s,4,none⟩) (v:=.int .i64 (ax.last+1:Nat)) (by simp)).trans q0;have b1:=(bu (a:=⟨s,4,none⟩) (v:=.int .i64 (ax.last+1:Nat)) (by simp)).trans q1;rw[e1]at K4 b0 b1 F8;have YY:=I K4;have DW:=I F8;clear F8 HC H2 F2 yx hfn q' F3 q0 q1 T9 HS K4 hne oG;simp only at*;go_upto_region 5 with(fail);clear c4 f4;generalize(w2.alloc (cB oN oA)).setCell ⟨s,4,none⟩ (.int .i64 ((ax.last:Int)+1))=W4 at*;generalize w2.heap.size=b9 at*;have c2:=(Z YY).k.c2;have c3:=(Z YY).k.c3;have c4:=(Z YY).k.c4;simp only at c2 c3 c4;rw[e1]at c4;have YN:=(Z YY).k.tg.lt;have F5:=(χ (χ (γ W4.heap.size W4) (.cells (Lib.byteCells (List.replicate ax.sz 0)).toArray 5)) (.cells #[.int .i64 oN,.int .i64 oA,.slice (some ⟨W4.heap.size,0,none⟩) ax.sz ax.sz,.int .i64 1] 192)).drew;have K5:=(Z YY).b F5;have hms:=(Z HMB) W4.drew;have hsz:(W4.alloc (.cells (Lib.byteCells (List.replicate ax.sz 0)).toArray 5)).heap.size=W4.heap.size+1:=by simp
  have q':=θ (W4.alloc (.cells (Lib.byteCells (List.replicate ax.sz 0)).toArray 5)) #[.int .i64 oN,.int .i64 oA,.slice (some ⟨W4.heap.size,0,none⟩) ax.sz ax.sz,.int .i64 1] 192;have tg:=bB (W4.alloc (.cells (Lib.byteCells (List.replicate ax.sz 0)).toArray 5)) #[.int .i64 oN,.int .i64 oA,.slice (some ⟨W4.heap.size,0,none⟩) ax.sz ax.sz,.int .i64 1] 192;rw[hsz]at q' tg;have hrow:(W4.alloc (.cells (Lib.byteCells (List.replicate ax.sz 0)).toArray 5)).heap[W4.heap.size]?=some (.cells (Lib.byteCells (List.replicate ax.sz 0)).toArray 5 (0,0)):=by
   show(W4.heap.push _)[W4.heap.size]?=_;simp
  have DY:ik ((W4.alloc (.cells (Lib.byteCells (List.replicate ax.sz 0)).toArray 5)).alloc (.cells #[.int .i64 oN,.int .i64 oA,.slice (some ⟨W4.heap.size,0,none⟩) ax.sz ax.sz,.int .i64 1] 192)) (W4.heap.size+1) ⟨(oN,oA),List.replicate ax.sz 0,1,W4.heap.size⟩:=
   ⟨q' 0,q' 1,(q' 2).trans (by simp[yJ]),q' 3,tg,λo=>aG _ _ (W4.heap.size+1) o hsz.symm,((χ (γ _ _) _).block W4.heap.size (by rw[hsz];omega)).trans hrow⟩
  have Iq:=DY.b (dw _);obtain⟨w5,xS,K6,hkp⟩:=K5.k.put (t:=ax.last+1) ⟨by omega,ζ _⟩ (Z Ip) Iq ⟨σ K5.k.ge.1 (by have:=(Z YY).k.tg.lt;omega),σ K5.k.ge.1 (by have:=(Z YY).k.tg.lt;show s<=W4.heap.size;omega)⟩ (by simp) ⟨ζ _,by show 1<=16;omega⟩ (λt' b' e'=>by
   have G:=((Z YY).k.k t' b' e').1;have O:=G.tg.lt;have h3:(ax.g b').q<W4.heap.size:=G.rt.lt;exact⟨by omega,by show(ax.g b').q≠W4.heap.size;omega⟩) (by show ax.q<maxLen;have:=(Z HZ).1;unfold maxLen;omega)
  rw[e1]at xS K6;have Dh:=I (K5.own (Kp.kept hkp ⟨hgm,δ rfl⟩ ⟨hgm,δ rfl⟩) K6);have Gj:=I (((Z DW).trans (eU.below (P:=P2) (λj E=>((Z YY).d.iH j E).lt) F5)).trans (eU.own (Kp.kept hkp ⟨hgm,δ rfl⟩ ⟨hgm,δ rfl⟩) K5.k.bq.aQ (λj E=>K5.d.iH j E)));have Iw:=K6.c4;simp only at Iw;rw[e1]at Iw;clear DW YY F5 K5 q' tg hrow Iq DY K6 hkp hsz Ip hgm HMB H3;go_region
  all_goals
   clear xS hms b0 b1 c2 c3 c4;go_wp2;refine Θ (v:=.tuple #[.int .i64 ((ax.last:Int)+1),.nilIface]) (by simp[results,results35,go_sem];try rfl) rfl ?_;exact ε ⟨rfl,(oN,oA),S2,P2,W4.heap.size+1,W4.heap.size,_,Z WL,Z Gj,Z Dh⟩
 ·as_aux_lemma =>
  have F3:=χ (γ w2.heap.size w2) (cB 0 0);have H3:=I (H2.b F3);have Dg:=I ((F2.fv).trans (eU.below (λj E=>(H2.d.iH j E).lt) F3));have DF:=I vX;clear HC H2 F2 vX F3;unfold bc at*;go_wp2;refine Θ (v:=.tuple #[.int .i64 0,.iface 424 (.pointer (some (e 7)))]) (by simp[results,results35,go_sem];try rfl) rfl ?_;exact δ ⟨rfl,S2,P2,ic,Z DF,Z Dg,Z H3⟩
theorem FS.takeA {pg:Nat}{l:List Bl}(h:FS pg C S l)(hA:FA C S)(hu:u=true\/C.mn<=0)(hx:0<=x/\x<S.ws.length)(hT:mV C S x 0 u r o S'):
  (l.length<pg*C.m/\r=none/\o∉l/\FS pg C S' (l++[o]))\/(l.length=pg*C.m/\r=some 4/\FS pg C S' l):=by
 have f_:=hA.mm;have J:∀s∈S.Q,s.bm<2^C.m:=λs hs=>(hA.ok s hs).2.2.1;have A5:=hA.so;have how:=hA.ow;have hF:=h.fi;have eH:=hF.ok;have hpl:=h.pl;have k1:=h.k1;cases hT with
 |bad mN=>omega
 |lift i a b a' b' dC xs o _ dR hl K=>rw[h.ct]at K;simp at K
 |no i a b a' b' dC n mN dR hl K hn hr =>
  right;rcases hr with⟨_,h6⟩|⟨x',h4,h5,h6,h7,h8⟩
  ·omega
  ·obtain rfl:x'=0:=by omega
   rw[h.f0]at h7 h8;have h9:fA 0 C.mn u (S.V 0)≠2:=by
    intro h;simp[h]at h7
   have h10:=Ja eH (Ji eH hu h9);have h11:=uo C.m S.Q (Nn h6 hF.V);have Hh:=hF.pg;rw[h10]at Hh;simp only[fS]at Hh;have h13:S.Q.length=pg:=by omega
   rw[h13,hF.tt]at h11;have h14:n=4:=by rw[h8];simp[Nu eH hu]
   subst h14;exact⟨h11,rfl,k1,h.f0,h.mm,A3 hl hpl,h.ct,hF,h.V,h.tk⟩
 |old i a b a' b' dC x' j s mN dR hl K hy D h3 h4 =>
  left;obtain rfl:x'=0:=by omega
  obtain⟨E,hnd,jR⟩:=iP h3;rw[getD_at h4]at hnd jR;have hsm:=J s (aH h4);obtain⟨f1,f2,f3⟩:=ky hsm h.mm.2 jR;have e1:=yc C.m S.Q j s {s with bm:=s.bm||| 2^ff s.bm} h4;simp only[rL hsm h.mm.2 jR]at e1;have gY:¬iM C.m C.sz S.Q (s.V:Int) (s.at_*64+ff s.bm*C.sz):=by
   rintro⟨j',i',s',es,hi,Gz,hn,ha⟩;have su:=jA f_.1 f_.2.2 hi;have hm2:=jA f_.1 f_.2.2 f1;simp only at hn ha;have e2:s.at_=s'.at_:=by omega
   have e3:j=j':=lO A5 h4 es (by omega) e2;subst e3;rw[h4]at es;cases es
   have e4:(ff s.bm:Int)*C.sz=i'*C.sz:=by omega
   have e5:(ff s.bm:Int)=i':=Int.eq_of_mul_eq_mul_right (by omega) e4;have e6:ff s.bm=i':=by omega
   rw[<- e6,f2]at Gz;cases Gz
  have kn:((s.V:Int),s.at_*64+ff s.bm*C.sz)∉l:=λhm=>gY (h.tk _ hm);have hlt:=Nl C.m h4 jR;have hle:S.Q.length<=pg:=by have:=hF.pg;have:=(mD (l:=(S.V 0).aca)).1;omega
  have hmul:S.Q.length*C.m<=pg*C.m:=gA _ hle;refine⟨by have:=hF.tt;omega,rfl,kn,k1,h.f0,h.mm,A3 hl hpl,h.ct,⟨eH,by simp only[dp];exact hF.pg,by have:=hF.tt;simp only[φ,ag];omega,λs' hs'=>?_⟩,?_,?_⟩
  ·rcases gK hs' with q|rfl
   ·exact hF.V s' q
   ·exact hnd
  ·exact aF.2 ⟨h.V,by simp,λp hp q hq e=>by
    simp only[ae,aR,dg]at hq;exact kn (by rw[<- hq,<- e];exact hp)⟩
  ·intro p hp;rcases aC.1 hp with hp|hp
   ·exact(h.tk p hp).or h4 _
   ·simp only[ae,aR,dg]at hp;subst hp;exact⟨j,ff s.bm,_,aP E,f1,by simp[Nat.testBit_or],rfl,rfl⟩
 |new i a b a' b' dC x' n q mN dR hl K hy D h3 h4 h5 h7 =>
  left;obtain rfl:n=0:=by omega
  obtain rfl:x'=0:=by omega
  have kV:fA 0 C.mn u (S.V 0)=2:=by
   have:=List.find?_some h4;simpa using this
  obtain⟨y0,hf⟩:∃y0,fit 0 (S.V 0).aca=some y0:=by
   cases hf:fit 0 (S.V 0).aca with
   |none=>simp[fA,hf]at kV
   |some y0=>exact⟨y0,rfl⟩
  obtain⟨wK,uV⟩:=iQ hf;have e1:(kC 0 (S.V 0)).aca=gV 0 y0 (S.V 0).aca:=by simp[kC,hf]
  have e2:=tU (by omega) eH.2.2 wK uV;have e3:pw 0=1:=rfl;have Gw:=hF.pg;have hne:1<=fS (S.V 0).aca:=(mD (l:=(S.V 0).aca)).2 (List.ne_nil_of_mem wK);have gY:¬iM C.m C.sz S.Q ((0:Nat):Int) (mO 0 (S.V 0)*64):=by
   rintro⟨j',i',s',es,hi,Gz,hn,ha⟩;have su:=jA f_.1 f_.2.2 hi;simp only at hn ha;have hs':=aH es;have:=how.fresh eH kV s' hs' (hF.V s' hs');omega
  have kn:(((0:Nat):Int),mO 0 (S.V 0)*64)∉l:=λhm=>gY (h.tk _ hm);have hle:S.Q.length+1<=pg:=by omega
  have hmul:(S.Q.length+1)*C.m<=pg*C.m:=gA _ hle;have uX:=qJ C.m S.Q;have su:=h.mm.1;rw[Nat.add_mul]at hmul;have htt:=hF.tt;have aaQ:(kC 0 (S.V 0)).ok:=Au (by omega) eH;refine⟨by omega,rfl,kn,k1,h.f0,h.mm,A3 hl hpl,h.ct,⟨by simp only[gJ];exact aaQ,?_,?_,λs hs=>?_⟩,?_,?_⟩
  ·simp only[gJ,ek];rw[e1];push_cast;omega
  ·simp only[yb,φ,ag];have e4:pop 1 C.m=1:=by
    have h0:=rL (x:=0) (m:=C.m) (Nat.two_pow_pos _) h.mm.2 (by rw[iT];omega);rw[CN,iT]at h0;exact h0
   omega
  ·rcases nV.mp hs with rfl|q
   ·rfl
   ·exact hF.V s q
  ·exact aF.2 ⟨h.V,by simp,λp hp q hq e=>by
    simp only[ae,aR,dg]at hq;exact kn (by rw[<- hq,<- e];exact hp)⟩
  ·intro p hp;rcases aC.1 hp with hp|hp
   ·exact(h.tk p hp).ins h7.1 _
   ·simp only[ae,aR,dg]at hp;subst hp;exact⟨q,0,⟨0,mO 0 (S.V 0),1⟩,by rw[cF _ h7.1,ai (by omega),af rfl],by omega,(show(1:Nat).testBit 0=true by decide),rfl,by simp⟩
theorem FS.IC {R:List Bl}(h:FS pg C S [])(hA:FA C S)(hx:0<S.ws.length)(hT:yP C 0 S R S'):R.length<=pg*C.m/\FS pg C S' R/\FA C S'/\S'.ws.length=S.ws.length:=by
 induction hT with
 |nil=>exact⟨Γ _,h,hA,rfl⟩
 |snoc S1 S2 l o hl hT hF ih =>
  obtain⟨i1,i2,i3,i4⟩:=ih;rcases i2.takeA i3 (ε rfl) (by omega) hT with⟨a,_,_,d⟩|⟨_,b,_⟩
  ·exact⟨by simp only[φ,ag];omega,d,hF,(Jn hT).trans i4⟩
  ·cases b
structure FQ (pg:Nat)(C:Dc)(l:List Bl)(S:Ds)(P:Ps):Prop where
 fs:FS pg C S l
 sub:∀o∈P.R++P.T,o∈l
 V:(P.R++P.T).Nodup
 mn:C.mn=0
 ws:S.ws.length=2
 L:P.L=[]
 ab6:P.ab6=[]
 q:P.q<=l.length
 tk:P.tk=0
 most:P.most<=16
 ab5:S.ab5=0
theorem BV (h:PD B C ab7 X Y F ym S P w)(hF:FQ pg C l S P)(hlt:l.length<pg*C.m)(hN:C.w0.heap.size<=C.N0)(he:dM C.w0 e)(Hh:11<B)(hx:0<=x/\x<2)(hl:l.length<1000000):
  Calls prog 15 #[.pointer (some ⟨Y,0,none⟩),.int .i64 x,.int .i64 0] w λev w'=>∃(o:Bl) (S':Ds) (P':Ps),ev=.returned (.tuple #[bz o.1 o.2,.nilIface])/\PD B C ab7 X Y F ym S' P' w'/\PF ab7 P P' w w'/\FQ pg C (l++[o]) S' P':=by
 have Cr:C.mn<=0:=by rw[hF.mn];omega
 have hx2:0<=x/\x<S.ws.length:=by have:=hF.ws;omega
 have hy:(0:Int)<=0/\(0:Int)<C.k:=by have:=hF.fs.k1;omega
 have hA:=h.k.fa;refine(yu h hN he Hh hF.L hx2 hy (by have:=hF.q;omega) (by have:=hF.tk;omega) (λo S' U X W hT um=>?_) (λo ho=>⟨λhm=>(aF.1 hF.V).2.2 o ho o hm rfl,hF.fs.w2 h.k (hF.sub o (by simp[ho]))⟩)).mono ?_
 ·rcases hF.fs.takeA hA (δ Cr) hx2 hT with⟨_,_,h3,h4⟩|⟨_,O,_⟩
  ·exact⟨λhm=>h3 (hF.sub o (by simp[hm])),h4.w2 um (by simp)⟩
  ·cases O
 rintro ev w'⟨r,o,S',hT,G⟩;rcases hF.fs.takeA hA (δ Cr) hx2 hT with⟨_,O,h3,h4⟩|⟨O,_⟩
 case inr=>omega
 rcases G with⟨_,rfl,um,SB⟩|⟨hr,_⟩|⟨hr,_⟩
 ·have ho:o∉P.R++P.T:=λhm=>h3 (hF.sub o hm);refine⟨o,S',_,rfl,um,SB,⟨h4,λp hp=>?_,?_,hF.mn,(Jn hT).trans hF.ws,hF.L,hF.ab6,by have:=hF.q;simp only[φ,ag];omega,hF.tk,hF.most,(qi hT).trans hF.ab5⟩⟩
  ·simp only[aC,aw]at hp ⊢;rcases hp with hp|hp|hp
   ·exact ε (hF.sub p (by simp[hp]))
   ·exact ε (hF.sub p (by simp[hp]))
   ·exact δ hp
  ·simp only;rw[<- aJ];refine aF.2 ⟨hF.V,by simp,λa ha b J e=>?_⟩;simp only[aw]at J;exact ho (by rw[<- J,<- e];exact ha)
 ·exact absurd O hr
 ·exact absurd O hr
end
def SW (ab5:Ds->Ps->Prop)(B:Nat)(C:Dc)(ab7:Nat->Prop)(Y F ym s m:Nat)(ax:cu)(w:World):Prop:=∃X S P,bR B C ab7 X Y F ym S P s m ax w/\ab5 S P
section
variable {ab5 Q':Ds->Ps->Prop}{B:Nat}{C:Dc}{ab7 V':Nat->Prop}{X:Nat->Option Obj}{Y F ym m s:Nat}{S S':Ds}{P P':Ps}{w w':World}{ax Z':cu}{e:Nat->Addr}
theorem SW.b (h:SW ab5 B C ab7 Y F ym s m ax w)(J:Below w.heap.size w w'):SW ab5 B C ab7 Y F ym s m ax w':=by
 obtain⟨X,S,P,G,O⟩:=h;exact⟨X,S,P,G.b J,O⟩
theorem SW.low (h:SW ab5 B C ab7 Y F ym s m ax w):Below C.w0.heap.size C.w0 w:=by
 obtain⟨X,S,P,G,O⟩:=h;exact DQ.b0 G.d.k
theorem SW.k (h:SW ab5 B C ab7 Y F ym s m ax w):bg B w s Y m ax:=by
 obtain⟨X,S,P,G,O⟩:=h;exact G.k
theorem SW.less (h:SW ab5 B C ab7 Y F ym s m ax w)(hv:∀j,V' j->ab7 j):SW ab5 B C V' Y F ym s m ax w:=by
 obtain⟨X,S,P,G,O⟩:=h;exact⟨X,S,P,G.less hv,O⟩
theorem SW.more (h:SW ab5 B C ab7 Y F ym s m ax w)(J:Below w.heap.size w w'){b:Nat}(hw:w.heap.size<=b)(ht:Tag w' b 34):SW ab5 B C (λj=>ab7 j\/j=b) Y F ym s m ax w':=by
 obtain⟨X,S,P,G,O⟩:=h;exact⟨X,S,P,G.more J hw ht,O⟩
theorem SW.cell (h:SW ab5 B C ab7 Y F ym s m ax w){b:Nat}(ht:Tag w b 192)(hB:B<=b)(v:Value)(hZ:bg B (w.setCell ⟨b,3,none⟩ v) s Y m Z'):SW ab5 B C ab7 Y F ym s m Z' (w.setCell ⟨b,3,none⟩ v):=by
 obtain⟨X,S,P,G,O⟩:=h;exact⟨_,S,P,G.own (Kp.set w b 3 v ⟨σ G.d.hB hB,ε ⟨192,ht,by decide⟩⟩) hZ,O⟩
theorem SW.row (h:SW ab5 B C ab7 Y F ym s m ax w){q:Nat}(ht:Tag w q 5)(hB:B<=q)(cs:Array Value)(hZ:bg B (w.setRow q cs) s Y m Z'):SW ab5 B C ab7 Y F ym s m Z' (w.setRow q cs):=by
 obtain⟨X,S,P,G,O⟩:=h;have oG:=σ G.d.hB hB;exact⟨_,S,P,G.own ⟨rfl,rfl,rfl,by simp,λj _ hn=>setRow_other _ _ _ _ (λe=>hn ⟨e▸oG,ε ⟨5,e▸ht,by decide⟩⟩)⟩ hZ,O⟩
theorem v_ (h:SW ab5 B C ab7 Y F ym s m ax w){t:Int}(ht:(Lit.int .i64 t).wf=true){b:Nat}(hf:ax.f t=some b)(hn:(ax.g b).n=1){a:Nat}(x:ByteArray)(hle:a+x.size<=ax.sz):Calls prog 36 #[.pointer (some ⟨s,0,none⟩),.int .i64 t,.int .i64 a,.string x] w λev w'=>ev=.returned .nilIface/\SW ab5 B C ab7 Y F ym s m {ax with g:=ma ax.g b {ax.g b with l:=nu (ax.g b).l a x.data.toList}} w':=by
 refine(o6 h.k ht hf hn x hle).mono ?_;rintro ev w'⟨rfl,rfl,hZ⟩;obtain⟨k1,k2,k3,_⟩:=h.k.k t b hf;exact⟨rfl,h.row k1.rt k3 _ hZ⟩
def Gives (ab5:Ds->Ps->Prop)(Q':Bl->Ds->Ps->Prop)(B:Nat)(C:Dc)(Y F ym:Nat)(x y:Int):Prop:=∀X ab7 S P W,PD B C ab7 X Y F ym S P W->ab5 S P->Calls prog 15 #[.pointer (some ⟨Y,0,none⟩),.int .i64 x,.int .i64 y] W λev w'=>∃(o:Bl) (S':Ds) (P':Ps),ev=.returned (.tuple #[bz o.1 o.2,.nilIface])/\PD B C ab7 X Y F ym S' P' w'/\PF ab7 P P' W w'/\Q' o S' P'
theorem zo {Q':Bl->Ds->Ps->Prop}(h:SW ab5 B C ab7 Y F ym s m ax w)(he:dM C.w0 e)(Hh:11<C.w0.heap.size){x y:Int}(hq:ax.q<1000000)(hlast:ax.last<1000000)(HT:Gives ab5 Q' B C Y F ym x y):
  Calls prog 35 #[.pointer (some ⟨s,0,none⟩),.int .i64 x,.int .i64 y] w λev w'=>ev=.returned (.tuple #[.int .i64 ((ax.last:Int)+1),.nilIface])/\∃(o:Bl) (b q':Nat),
   SW (Q' o) B C ab7 Y F ym s m {ax with last:=ax.last+1,q:=ax.q+1,n:=ax.n+1,f:=mE ax.f ((ax.last:Int)+1) (some b),g:=ma ax.g b ⟨o,List.replicate ax.sz 0,1,q'⟩} w':=by
 obtain⟨X,S,P,G,O⟩:=h;refine(oJ G he Hh Q' (λ_ _=>False) hq hlast (λV' W hS=>(HT X V' S P W hS.d O).mono (by rintro ev w'⟨o,S',P',rfl,hD,hF,hQ⟩;exact ε ⟨o,S',P',rfl,hD,hF,hQ⟩))).mono ?_;rintro ev w'(⟨rfl,o,S',P',b,q',X',hQ,_,hSP⟩|⟨_,S',P',ic,hf,_⟩)
 ·exact⟨rfl,o,b,q',X',S',P',hSP,hQ⟩
 ·exact hf.elim
end
open Rd
section
variable {C:Dc}{M:Mc}{ab7 U:Nat->Prop}{X:Nat->Option Obj}{S:Ds}{P P':Ps}{w w':World}
theorem AD.pf (h:AD C M U S w)(hf:PF ab7 P P' w w')(hU:∀j,U j->ab7 j)(hl:∀j,¬OB P.vl j):AD C M U S w':=by
 obtain⟨rb,rt,jd,hr⟩:=h.r;have hs:∀ts:List TypeId,(∀t∈ts,t∈Ug)->eh ts w w':=λts h' b t hm ht=>hf.s b t (h' t hm) ht;have hs2:=hs [252,253,38,333,291] (by decide);have hz':RZ w' M.rz C.mn C.lw C.hi C.k jd S.V C.fr:=by
  have G:=hr.hz;have cl:=λj=>bN hs2 (by simp) G.tg j;obtain⟨g,c,e1,o1⟩:=G.cn;obtain⟨g2,c2,rows,e2,o2,r2⟩:=G.cf;refine⟨(cl 2).trans G.m2,(cl 3).trans G.m3,(cl 4).trans G.m4,⟨g,c,(cl 5).trans e1,bK o1 hs2 (by simp)⟩,⟨g2,c2,rows,(cl 6).trans e2,bK o2 hs2 (by simp),λi hi=>?_⟩,cY hs2 (by simp) G.tg,λi hi=>oo (G.rb i hi) (hs [291] (by decide)) (hs2 _ 333 (by simp) (G.rb i hi).tg) hf.z,G.ok,G.ne⟩;obtain⟨h',d,e3,o3⟩:=r2 i hi;refine⟨h',d,e3,aI o3 (λb J=>?_)⟩;obtain rfl:h'=b:=by simpa[Value.ownBlock]using J
  exact hf.l h' (fV o3) (hl h')
 exact⟨⟨rb,rt,jd,hz',hr.K.same (hs _ (by decide)),hr.g,λg cp e=>hr.r g cp ((η (w:=w) (a:=⟨M.rz,5,none⟩) (hs2 M.rz 252 (by simp) hr.hz.tg)).symm.trans e)⟩,h.d.keep (λk D=>hf.v k (hU k D)) (hs _ (by decide)) hf.z (λ_ h=>h),λk D=>(h.u k D).blk (hf.v k (hU k D))⟩
theorem Yp (h:QK C M (λ_=>False) (λ_=>False) X S S.ms w):AD C M (λ_=>False) S w:=⟨h.r,h.d,λ_k D=>D.elim⟩
theorem Qp (h:QK C M (λ_=>False) (λ_=>False) X S S.ms w):DK C (λ_=>False) X S w:=DQ.less h.q (λ_j E=>E.elim)
end
structure D7 (N sz:Int)(w0:World)(C:Dc)(M:Mc)(S:Ds)(P:Ps)(R:Rs)(l:List Bl)(U:Nat->Prop)(X:Nat->Option Obj)(Y F ym aK s m ms:Nat)(w:World):Prop where
 hw:C.w0=w0
 hN:C.w0.heap.size<=C.N0
 D:C.k=1
 hm:(C.m:Int)=64/sz
 fr:∀x,x<C.k->(C.fr x).length=C.k/\∀i∈C.fr x,i<C.k
 q:FQ N.toNat C l S P
 l1:l.length=1
 hP:∃vr,P = {pG 1 with R:=l,vr:=vr}
 hR:∃vR,R = {Bz 1 with R:=l,vR:=vR}
 p:bR C.w0.heap.size C (λj=>U j\/OB R.vR j) X Y F ym S P s m (Bj 2 sz.toNat) w
 r:RP C.w0.heap.size C M aK U S R w
 t0:w.cell? ⟨ms,0,none⟩=some (.pointer (some ⟨aK,0,none⟩))
 t1:w.cell? ⟨ms,1,none⟩=some (.int .i64 sz)
 t2:w.cell? ⟨ms,2,none⟩=some (.slice none 0 0)
 t3:w.cell? ⟨ms,3,none⟩=some (.int .i64 0)
 tg:Tag w ms 90
 fz:∀o,w.frozen? ⟨ms,o,none⟩=false
 JN:C.w0.heap.size<=ms
section
variable {B:Nat}{C:Dc}{M:Mc}{Y F ym aK n:Nat}{ab7 V' U U':Nat->Prop}{X:Nat->Option Obj}{S S':Ds}{P:Ps}{R:Rs}{w w' w2 w3:World}{e:Nat->Addr}
theorem BX (hN:C.w0.heap.size<=C.N0)(hD:PD B C ab7 X Y F ym S P w)(K:bD R6 C.N0 w w')(hV:∀j,V' j->Tag w' j 34/\(ab7 j\/w.heap.size<=j)):PD B C V' X Y F ym S P w':=by
 have DI:∀κ : TypeId,some κ∈R6->κ∈AK:=λκ hm=>by
  simp only[R6,ae,τ,aR,dg]at hm;rcases hm with rfl|rfl|rfl|rfl|rfl|rfl|rfl<;>decide
 refine hD.iV (L:=λ_=>False) ((bD.kp6 K).mono λb _ J=>?_) (λ_ _ _ _ _ _ _ _ h=>h) (λ_ h=>h.elim) hV;obtain⟨G,κ,O,h3⟩:=J;exact δ ⟨σ hN G,ε ⟨κ,O,DI κ h3⟩⟩
theorem JU.JO {N sz:Int}{nw:Nat}{w0:World}(h:JU N 0 sz nw w0 C S)(hA:FA C S):FS N.toNat C S []:=
 ⟨h.D,h.oH,⟨hA.m1,hA.ml⟩,h.hpl,λt=>by rw[h.Gx],by have:=h.hfi;rw[h.Zc];exact this,dm,λ_ h=>by cases h⟩
theorem o7 (N sz:Int)(w:World)(e:Nat->Addr)(he:dM w e):
  Calls prog 34 #[.int .i64 N,.int .i64 sz] w λev w' =>
   (¬((1<=N/\N<=256)/\1<=sz/\sz<=64)/\ev=.returned (.tuple #[.pointer none,.pointer none,.bool false])/\Below w.heap.size w w') \/
   (((1<=N/\N<=256)/\1<=sz/\sz<=64)/\∃C M S P R l U X Y F ym aK s m ms,ev=.returned (.tuple #[.pointer (some ⟨s,0,none⟩),.pointer (some ⟨ms,0,none⟩),.bool true])/\D7 N sz w C M S P R l U X Y F ym aK s m ms w'):=by
 have HE:=I he;have UB:=I (yL N 0 sz 2 w e he (by omega));clear he;go_enter func34,ntmps34;go_wp2_with fail;refine(Z UB).mono ?_;rintro ev w1(⟨hg,rfl,b1⟩|⟨hg,C,M,S,rfl,hD,hQ⟩)
 ·have HB:=I b1;have HG:=I hg;clear UB b1 hg;go_wp2;refine Θ (v:=.tuple #[.pointer none,.pointer none,.bool false]) (by simp[results,results34,go_sem];try rfl) rfl ?_;exact ε ⟨λh=>(Z HG) ⟨⟨h.1.1,h.1.2,by omega⟩,h.2,by omega,by omega⟩,rfl,Z HB⟩
 obtain⟨⟨hg1,hg2,_⟩,hg3,_⟩:=hg;have hA:=DK.fa (Qp hQ);have wq:=I (hD.JO hA);have HFA:=I hA;have NT:=I (Qp hQ);have HAD:=I (Yp hQ);have Gh:=I hD.hN;have Ld:=I hD.hQ;have Dp:=I hD.hw;have II:=I hD.Cr;have HCM:=I hD.hm;have I9:=I hD.D;have uh:=I (show S.ws.length=2 from hD.dR);have Yr:=I (show dM C.w0 e from by rw[hD.hw];exact Z HE);have Dg:Hid (∀x,x<C.k->(C.fr x).length=C.k/\∀i∈C.fr x,i<C.k):=λx hx=>by
  have D:=hD.D;obtain rfl:x=0:=by omega
  rw[hD.oH,D];exact⟨rfl,λi hi=>by simp at hi;omega⟩
 have Gn:Hid ((1<=N/\N<=256)/\1<=sz/\sz<=64):=⟨⟨hg1,hg2⟩,hg3⟩;have Sp:0<N.toNat*C.m:=Nat.mul_pos (by omega) hA.m1;have IJ:=I Sp;clear hD hQ hA UB hg1 hg2 hg3 HE Sp;have Io:=I (NV (ab7:=λ_=>False) (X:=λ_=>none) (B:=C.w0.heap.size) (Z NT) (Z Gh) (Z Yr) (ζ _) (DQ.b0 (Z NT)).size (n:=1) (by omega) 0 (by rw[Z Ld];omega));unfold bc at*;go_wp2_with fail;refine(Z Io).mono ?_;rintro ev w2(⟨rfl,S',R,vr,hl,hT,hP,hF⟩|⟨m,S1,S2,S',R,rfl,hl,hT,hm,_⟩);case inr =>
  exfalso;obtain⟨_,f1,f2,f3⟩:=(Z wq).IC (Z HFA) (by rw[Z uh];omega) hT;have:=Z IJ;rcases f1.takeA f2 (ε rfl) (by rw[f3,Z uh];omega) hm with⟨_,h,_⟩|⟨h,_⟩
  ·cases h
  ·omega
 have Ys:=(Z HAD).pf hF (λ_ h=>h) (λj h=>(by cases h));have mM:C.N0<=w2.heap.size/\C.w0.heap.size<=w2.heap.size:=⟨DQ.low hP.k,(DQ.b0 hP.k).size⟩;have Xy:=I (u_ (B:=C.w0.heap.size) Ys mM (n:=1) (by omega) (Z HFA) (by rw[Z Ld];omega) (Z Dg) hT hl);obtain⟨_,f1,_,f3⟩:=(Z wq).IC (Z HFA) (by rw[Z uh];omega) hT;have Gp:Hid (FQ N.toNat C R S' {pG 1 with R:=R,vr:=vr}):=⟨f1,λo ho=>by simpa[pG]using ho,by simpa[pG]using f1.V,Z II,f3.trans (Z uh),rfl,rfl,Γ _,rfl,by show 1<=16;omega,(yP.ab5 hT).trans (Z Ld)⟩;have OG:=I hP;have NY:=I hl;clear Io Ys mM hF hP hT f1 f3 hl HAD NT wq HFA II Ld uh IJ;go_wp2_with fail;refine(Z Xy).mono ?_;rintro ev w3⟨vR,U',rfl,hR,K,hu,hv⟩;have P3:=BX (V':=λj=>U' j\/OB vR j) (Z Gh) (Z OG) K (λj E=>by
  rcases E with E|E
  ·exact⟨hR.k.u j E,δ ((hu j E).elim (λh=>h.elim) id)⟩
  ·exact⟨(ay hR.m.r E).1,δ (hv j E)⟩)
 generalize w1.heap.size+1+1=Y at*;generalize w1.heap.size+1=ym at*;generalize w1.heap.size=F at*;generalize w2.heap.size=aK at*;obtain⟨Bq,hsz⟩:∃n:Nat,sz=n:=⟨sz.toNat,by have:=(Z Gn).2.1;omega⟩;subst hsz;have hz:1<=Bq/\Bq<=64:=by have:=(Z Gn).2;omega
 obtain⟨cp,Zv,_⟩:=(DQ.db P3.k).d1;have Gq:S'.ws.length=2:=(Z Gp).ws;rw[Gq]at Zv;have D8:=I (MV P3.m.c0 Zv hz);have Bt:=bR.start P3 (B:=C.w0.heap.size) (DQ.b0 P3.k).size 2 hz;have b4:=vY w3 Y 2 Bq;have KQ:=I Bt;have zx:=I (hR.b b4);clear Xy hR K hu hv P3 OG Zv Bt b4;go_wp2_with fail;refine(Z D8).mono ?_;rintro ev w4⟨rfl,rfl⟩;generalize nC w3 Y 2 Bq=w4 at*;generalize w3.heap.size+1=s at*;have F5:=χ (γ w4.heap.size w4) (.cells #[.pointer (some ⟨aK,0,none⟩),.int .i64 Bq,.slice none 0 0,.int .i64 0] 90);have q':=θ w4 #[.pointer (some ⟨aK,0,none⟩),.int .i64 Bq,.slice none 0 0,.int .i64 0] 90;have Es:Hid (∃C M S P R l U X Y F ym Gr s' m ms,Ending.returned (.tuple #[.pointer (some ⟨s,0,none⟩),.pointer (some ⟨w4.heap.size,0,none⟩),.bool true])=.returned (.tuple #[.pointer (some ⟨s',0,none⟩),.pointer (some ⟨ms,0,none⟩),.bool true])/\D7 N Bq w C M S P R l U X Y F ym Gr s' m ms (w4.alloc (.cells #[.pointer (some ⟨aK,0,none⟩),.int .i64 Bq,.slice none 0 0,.int .i64 0] 90))):=
  ⟨C,M,S',{pG 1 with R:=R,vr:=vr},{Bz 1 with R:=R,vR:=vR},R,U',_,Y,F,ym,aK,s,_,w4.heap.size,rfl,Z Dp,Z Gh,Z I9,Z HCM,Z Dg,Z Gp,Z NY,⟨vr,rfl⟩,⟨vR,rfl⟩,by rw[Int.toNat_natCast];exact(Z KQ).b F5,(Z zx).b F5,q' 0,q' 1,q' 2,q' 3,bB _ _ _,λo=>aG _ _ w4.heap.size o rfl,(DQ.b0 (Z KQ).d.k).size⟩
 clear D8 KQ zx F5 q' Gp Dp Gh HCM I9 Dg Yr;go_wp2;refine Θ (v:=.tuple #[.pointer (some ⟨s,0,none⟩),.pointer (some ⟨w4.heap.size,0,none⟩),.bool true]) (by simp[results,results34,go_sem];try rfl) rfl ?_;exact δ ⟨Z Gn,Z Es⟩
end
end Pl
namespace Pl
open Fr Bd Zn Dz Sb Mg
def One (ab5:Ds->Ps->Prop)(B:Nat)(C:Dc)(Y F ym s m sz:Nat)(l:List UInt8)(n:Nat)(w:World):Prop:=∃ax b,SW ab5 B C (λ_=>False) Y F ym s m ax w/\ax.f 1=some b/\(ax.g b).l=l/\(ax.g b).n=n/\ax.n=1/\ax.last=1/\ax.sz=sz/\ax.q<=10
section
variable {ab5:Ds->Ps->Prop}{Q':Bl->Ds->Ps->Prop}{B:Nat}{C:Dc}{Y F ym m s sz n:Nat}{l:List UInt8}{w w':World}{e:Nat->Addr}
theorem wf1:(Lit.int .i64 (1:Int)).wf=true:=by decide
theorem One.b (h:One ab5 B C Y F ym s m sz l n w)(J:Below w.heap.size w w'):One ab5 B C Y F ym s m sz l n w':=by
 obtain⟨ax,b,G,O⟩:=h;exact⟨ax,b,G.b J,O⟩
theorem One.low (h:One ab5 B C Y F ym s m sz l n w):Below C.w0.heap.size C.w0 w:=by
 obtain⟨ax,b,G,O⟩:=h;exact G.low
theorem One.len (h:One ab5 B C Y F ym s m sz l n w):l.length=sz/\1<=sz/\sz<=64:=by
 obtain⟨ax,b,G,O,rfl,rfl,_,_,rfl,_⟩:=h;exact⟨(G.k.k 1 b O).2.2.2.2.2.1,G.k.oP.1,G.k.oP.2⟩
theorem wo (h:SW ab5 B C (λ_=>False) Y F ym s m (Bj 2 sz) w)(he:dM C.w0 e)(Hh:11<C.w0.heap.size)(HT:Gives ab5 Q' B C Y F ym 0 0):
  Calls prog 35 #[.pointer (some ⟨s,0,none⟩),.int .i64 0,.int .i64 0] w λev w'=>ev=.returned (.tuple #[.int .i64 1,.nilIface])/\∃o,One (Q' o) B C Y F ym s m sz (List.replicate sz 0) 1 w':=by
 refine(zo h he Hh (by show 0<1000000;omega) (by show 0<1000000;omega) HT).mono ?_;rintro ev w'⟨rfl,o,b,q',G⟩;exact⟨rfl,o,_,b,G,(show mE (Bj 2 sz).f (1:Int) (some b) 1=some b from l8 _ _ _),by simp only[lU,Bj],by simp only[lU],rfl,rfl,rfl,by show 0+1<=10;omega⟩
theorem uj (h:One ab5 B C Y F ym s m sz l 1 w){a:Nat}(x:ByteArray)(hle:a+x.size<=sz):Calls prog 36 #[.pointer (some ⟨s,0,none⟩),.int .i64 1,.int .i64 a,.string x] w λev w'=>ev=.returned .nilIface/\One ab5 B C Y F ym s m sz (nu l a x.data.toList) 1 w':=by
 obtain⟨ax,b,G,O,rfl,h4,h5,h6,rfl,h8⟩:=h;refine(v_ G wf1 O h4 x hle).mono ?_;rintro ev w'⟨rfl,h9⟩;exact⟨rfl,_,b,h9,O,by simp only[lU],by simp only[lU];exact h4,h5,h6,rfl,h8⟩
theorem wz (h:One ab5 B C Y F ym s m sz l n w){k:Nat}(D:k<=sz):Calls prog 38 #[.pointer (some ⟨s,0,none⟩),.int .i64 1,.int .i64 0,.int .i64 k] w λev w'=>ev=.returned (.tuple #[.string ⟨(l.take k).toArray⟩,.nilIface])/\w'=w:=by
 obtain⟨ax,b,G,O,rfl,rfl,h5,h6,rfl,h8⟩:=h;have:=oF G.k wf1 O (a:=0) (n:=k) (by omega);simpa using this
end
open Rd
section
variable {B:Nat}{C:Dc}{M:Mc}{Y F ym aK s m ms pg:Nat}{U:Nat->Prop}{X:Nat->Option Obj}{S:Ds}{P:Ps}{R:Rs}{l:List Bl}{w w0:World}{e:Nat->Addr}{x N sz:Int}
theorem zq (hlt:l.length<pg*C.m)(hN:C.w0.heap.size<=C.N0)(he:dM C.w0 e)(Hh:11<B)(hx:0<=x/\x<2)(hl:l.length<1000000):Gives (FQ pg C l) (λo=>FQ pg C (l++[o])) B C Y F ym x 0:=λ_ _ _ _ _ hD hF=>BV hD hF hlt hN he Hh hx hl
theorem D7.kS (h:D7 N sz w0 C M S P R l U X Y F ym aK s m ms w):SW (FQ N.toNat C l) C.w0.heap.size C (λ_=>False) Y F ym s m (Bj 2 sz.toNat) w:=⟨X,S,P,h.p.less (λ_ h=>h.elim),h.q⟩
theorem qo (w:World)(e:Nat->Addr)(he:dM w e)(hw:11<w.heap.size):Calls prog 33 #[] w λev w'=>ev=.returned (.bool true)/\Below w.heap.size w w':=by
 have Ry:=I (o7 1 16 w e he);have HE:=I he;clear he;go_enter func33,ntmps33;go_wp2_with fail;refine(Z Ry).mono ?_;rintro ev w1(⟨h,_⟩|⟨_,C,M,S,P,R,l,U,X,Y,F,ym,aK,s,m,ms,rfl,hS⟩)
 ·omega
 have hw0:=hS.hw;have hE:=Z HE;rw[<- hw0]at hE hw;have hm:C.m=4:=by have:=hS.hm;omega
 have KG:=hS.l1;have IK:=wo hS.kS hE hw (zq (x:=0) (by rw[KG,hm];decide) hS.hN hE hw (by omega) (by rw[KG];omega));have gL:=I IK;have Wb:=I hw0;clear Ry hS hE hm KG IK HE;go_wp2_with fail;refine(Z gL).mono ?_;rintro ev w2⟨rfl,o,O⟩;have y8:=uj O (a:=1) ⟨#[97,98]⟩ (by decide);rw[show((1:Nat):Int)=1 from rfl]at y8;have IL:=I y8;clear gL O y8;go_wp2_with fail;refine(Z IL).mono ?_;rintro ev w3⟨rfl,h3⟩;have Gs:=wz h3 (k:=4) (by decide);rw[show((4:Nat):Int)=4 from rfl,show(List.take 4 (nu (List.replicate (Int.toNat 16) 0) 1 (ByteArray.mk #[97,98]).data.toList)).toArray=#[0,97,98,0]from by decide]at Gs;have Kz:=I Gs;have jN:=h3.low;rw[Z Wb]at jN;have oz:=I jN;clear IL h3 Gs jN;go_wp2_with fail;refine(Z Kz).mono ?_;rintro ev w4⟨rfl,rfl⟩;clear Kz;go_wp2;go_ret;exact⟨rfl,Z oz⟩
end
end Pl
end Go.Proofs.YtcbmfakjfoggaaaGreatDoor
