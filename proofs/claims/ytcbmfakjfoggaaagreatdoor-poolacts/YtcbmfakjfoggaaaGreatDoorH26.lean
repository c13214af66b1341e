/- H26 -/
import Derived.Test.YtcbmfakjfoggaaaGreatDoorA0
import Derived.Test.YtcbmfakjfoggaaaGreatDoorH24
set_option maxHeartbeats 0
set_option maxRecDepth 100000
namespace Go.Proofs.YtcbmfakjfoggaaaGreatDoor
open _root_.Go.Proofs.Tryz Go.RowKit Go.Maps
namespace Pl
open Fr Bd Zn Dz Sb Mg
section
variable {B:Nat}{C:Dc}{ab7 V':Nat->Prop}{X:Nat->Option Obj}{Y F ym:Nat}{S S':Ds}{P P':Ps}{w w':World}{e:Nat->Addr}
theorem PD.has (h:PD B C ab7 X Y F ym S P w)(he:dM C.w0 e)(y:Int):Calls prog 73 #[.pointer (some ⟨C.c,0,none⟩),.int .i64 y] w λev w'=>ev=.returned (.bool (decide (0<=y/\y<C.k)))/\Below w.heap.size w w':=by
 obtain⟨ly,bs,q,f,rb,p1,p2,p3⟩:=DQ.ex h.k;exact vz C.c C.z C.mn C.lw C.hi C.k C.nb C.fm C.F S.V C.fr y w e (he.below (DQ.b0 h.k)).three p1.d p1.c.c0
theorem PD.check (h:PD B C ab7 X Y F ym S P w)(he:dM C.w0 e)(x:Int):Calls prog 71 #[.pointer (some ⟨Y,0,none⟩),.int .i64 x] w λev w'=>ev=.returned (if 0<=x/\x<S.ws.length then .nilIface else bc (e 1))/\w'=w:=by
 obtain⟨TZ,Zv,_⟩:=(DQ.db h.k).d1;exact lM (Y:=Y) (d:=C.d) h.m.c0 Zv (he.below (DQ.b0 h.k)).v1 x
theorem Fl (h:PD B C ab7 X Y F ym S P w)(he:dM C.w0 e)(Hh:11<B)(hL:P.L≠[])(kI:P.L.length<8){x y:Int}(hx:0<=x/\x<S.ws.length)(hy:0<=y/\y<C.k)(kV:P.tk<1000000):
  Calls prog 15 #[.pointer (some ⟨Y,0,none⟩),.int .i64 x,.int .i64 y] w λev w'=>∃ic,ev=.returned (.tuple #[bz 0 0,bc (e 7)])/\PD B C ab7 X Y F ym S {P with L:=P.L++[P.tk+1],tk:=P.tk+1,vl:=ic} w'/\PF ab7 P {P with L:=P.L++[P.tk+1],tk:=P.tk+1,vl:=ic} w w':=by
 have F1:=χ (γ w.heap.size w) (cB 0 0);have R1:=cQ w;have H1:=h.more F1 (ζ _) R1.tg;have cZ:=I (h.fb F1);have kH:=I (H1.check he x);rw[af hx]at kH;have Jl:=I (jB (DQ.db H1.k).d0);have zA:=I (H1.has he y);rw[aM hy]at zA;have rS:=h.uu;have fk:=I R1;have dD:=I H1;have c0:=H1.m.c0;have c5:=H1.m.c5;obtain⟨pl,cl,hv⟩:=aX H1.m.l;rw[hv]at c5;have jw:0<P.L.length:=aU.2 hL;have d1:decide ((P.L.length:Int)>0)=true:=by simp;omega
 have d2:decide ((0:Int)<(P.L.length:Int))=true:=by simp;omega
 have d3:decide (0<P.L.length)=true:=by simp;omega
 have mW:Hid (∀W,PD B C (λj=>ab7 j\/j=w.heap.size) X Y F ym S P W->Calls prog 74 #[.pointer (some ⟨Y,0,none⟩)] W λev w'=>ev=.returned (bc (e 7))/\∃ic,jo B w' Y C.d F ym {P with L:=P.L++[P.tk+1],tk:=P.tk+1,vl:=ic}/\Kp (λb=>b=Y\/OB P.vl b) W w'/\∀j,OB ic j->OB P.vl j\/W.heap.size<=j):=λW hW=>Df hW.m (σ hW.m.ge (ck hW.m.tg.lt)) (e 7) (he.below (DQ.b0 hW.k)).v7 (by omega) kI (by omega);have HV:=I rS;clear h F1 R1 H1 rS he hv;unfold bz bc at*;generalize hn:P.L.length=n at*;go_enter func15,ntmps15;go_upto_region 1 with(fail);generalize w.alloc (cB 0 0)=W at*;go_wp2_with fail;refine(Z kH).mono ?_;rintro ev w1⟨rfl,rfl⟩;clear kH;go_wp2_with fail;refine(Z Jl).mono ?_;rintro ev w2⟨rfl,rfl⟩;clear Jl;go_wp2_with fail;refine(Z zA).mono ?_;rintro ev w3⟨rfl,b3⟩;have H3:=(Z dD).b b3;have fY:=I ((Z cZ).trans (((Z dD).fb b3).mono λj E=>ε E));have iq:=I ((Z fk).b b3);have d5:=(b3.cell (p:=⟨Y,5,none⟩) (Z dD).m.tg.lt).trans c5;have WI:=I ((Z mW) w3 H3);have eD:=I H3;clear zA dD cZ fk c5 c0 b3 H3 mW;go_wp2_with fail;refine(Z WI).mono ?_;rintro ev w4⟨rfl,ic,M4,K4,G4⟩;obtain⟨H4,P4⟩:=(Z eD).own M4 (K4.mono λk _ e=>by
  rcases e with e|e
  ·exact ε e
  ·exact δ (δ (δ (δ e)))) (λj E=>ε E) G4
 have RR:=(Z iq).blk (w':=w4) (P4.v w.heap.size (δ rfl));have jI:=I ((Z fY).trans (P4.mono λj E=>ε E));have Fo:=I H4;obtain⟨r0,r1,bQ,rt⟩:=RR;have f0:=bQ 0;have f1:=bQ 1;obtain⟨t0,t1⟩:=aW r0 r1 (.int .i64 0) (.int .i64 0);clear bQ WI M4 K4 G4 H4 P4 eD fY iq d5;go_wp2;refine Θ (v:=.tuple #[.agg #[.int .i64 0,.int .i64 0],.iface 424 (.pointer (some (e 7)))]) (by simp[results,results15,go_sem,t0,t1];try rfl) rfl ?_;refine⟨ic,rfl,(((Z Fo).h_ (δ rfl) 0 _).h_ (δ rfl) 1 _).less λj E=>ε E,?_⟩;exact((Z jI).box (Z HV) (ζ _) 0 _).box (Z HV) (ζ _) 1 _
end
theorem jJ {P:Program}(w:World){ops:Array Oper}{rest:List Oper}{o:Oper}{a:Act}{ab5:Exit->Act->World->Prop}(hg:o.guard=none)(m x:Operand)(t k:TypeId)(hop:o.op=Op.call {callee:=Callee.builtin Builtin.delete,args:=#[m,x],argTypes:=#[t,k]}){mv xv:Value}
  (hm:a.eval m=mv)(hx:a.eval x=xv){w':World}(hr:(Builtin.delete_ #[t,k] o.type #[mv,xv]).run P w=.ok (.tuple #[]) w')(hK:wpList P ops ab5 rest (a.put o.dst (.tuple #[])) w'):wpList P ops ab5 (o::rest) a w:=by
 refine wpList_plain hg λK' hK'=>?_;unfold Oper.wp;simp[execOp,hop,resolve,invoke,builtin,hm,hx,hr,Result.andThen];exact hK' _ _ hK
section
variable {B:Nat}{C:Dc}{ab7 V':Nat->Prop}{X:Nat->Option Obj}{Y F ym:Nat}{S S':Ds}{P P':Ps}{w w':World}{e:Nat->Addr}
theorem PD.fetched (h:PD B C ab7 X Y F ym S P w){t:Int}(ht:(Lit.int .i64 t).wf=true)(ty:TypeId):∃w',(Builtin.delete_ #[142,3] ty #[.map (some ym),.int .i64 t]).run prog w=.ok (.tuple #[]) w'/\PD B C ab7 X Y F ym S {P with ab6:=g_ P.ab6 t} w'/\PF ab7 P {P with ab6:=g_ P.ab6 t} w w'/\Kp (λb=>b=ym) w w':=by
 obtain⟨w',hr,hm,D⟩:=h.m.y.drop ht ty;have hK:Kp (λb=>b=ym) w w':=Kp.kept D rfl rfl;have Sp:=h.m.maps (w':=w') (λb J=>D.block b (by
  rcases J with rfl|J|J
  ·exact h.m.tg.lt
  ·exact(ay h.m.r J).1.lt
  ·exact(ay h.m.l J).1.lt) (h.m.yr J).2 (h.m.yr J).2) (h.m.t.blk (D.block F h.m.t.lt h.m.ne h.m.ne)) hm
 obtain⟨G,O⟩:=h.own Sp (hK.mono λk _ e=>δ (δ (ε e))) (λj E=>ε E) (λj E=>ε E);exact⟨w',hr,G,O,hK⟩
theorem lX (h:PD B C ab7 X Y F ym S P w){t:Int}(ht:(Lit.int .i64 t).wf=true):
  Calls prog 82 #[.pointer (some ⟨Y,0,none⟩),.int .i64 t] w λev w'=>ev=.returned (.tuple #[bz ((fT P.ab6 t).getD (0,0)).1 ((fT P.ab6 t).getD (0,0)).2,.bool (fT P.ab6 t).isSome])/\PD B C ab7 X Y F ym S {P with ab6:=g_ P.ab6 t} w'/\PF ab7 P {P with ab6:=g_ P.ab6 t} w w':=by
 have F1:=χ (γ w.heap.size w) (cB 0 0);have R1:=cQ w;have H1:=h.more F1 (ζ _) R1.tg;have cZ:=h.fb F1;have hlk:=H1.m.y.look ht;have c4:=H1.m.c4;have rS:=h.uu;obtain⟨oN,oA,ho⟩:∃oN oA,(fT P.ab6 t).getD (0,0)=(oN,oA):=⟨_,_,rfl⟩;rw[ho]at hlk ⊢;have HV:=I rS;generalize(fT P.ab6 t).isSome=bb at*;have F2:=χ (γ (w.alloc (cB 0 0)).heap.size (w.alloc (cB 0 0))) (cB oN oA);have q':=θ (w.alloc (cB 0 0)) #[.int .i64 oN,.int .i64 oA] 34;have q0:=q' 0;have q1:=q' 1;simp only[Δ,υ,ω]at q0 q1;have T9:=bB (w.alloc (cB 0 0)) #[.int .i64 oN,.int .i64 oA] 34;have H2:=H1.b F2;have R2:=R1.b F2;have eA:=cZ.trans ((H1.fb F2).mono λj E=>ε E);obtain⟨w3,pV,H3,P3,K3⟩:=H2.fetched ht 0;have c42:=H2.m.c4;have rB:=H2.m.y.aQ;have R3:=R2.blk (w':=w3) (K3.blk w.heap.size R2.tg.lt (λe=>by obtain⟨o',e1,e2⟩:=rB;exact aj e1 e2 R2.tg e.symm));have Jm:(w.alloc (cB 0 0)).heap.size≠ym:=λe=>by obtain⟨o',e1,e2⟩:=rB;exact aj e1 e2 T9 e.symm
 have q30:=(K3.cell (p:=⟨(w.alloc (cB 0 0)).heap.size,0,none⟩) T9.lt Jm).trans q0;have q31:=(K3.cell (p:=⟨(w.alloc (cB 0 0)).heap.size,1,none⟩) T9.lt Jm).trans q1;have fY:=I (eA.trans (P3.mono λj E=>ε E));have eD:=I H3;have hne:(w.alloc (cB 0 0)).heap.size≠w.heap.size:=by simp
 clear h F1 H1 cZ rS F2 q' T9 H2 R2 eA H3 P3 K3 rB R1;unfold bz;go_enter func82,ntmps82;go_upto_region 1 with(fail);generalize w.alloc (cB 0 0)=W at*;generalize KW:W.heap.size=b9 at*;go_upto_region 2 with(fail);generalize W.alloc (cB oN oA)=W2 at*;have hdel:∀ty,(Builtin.delete_ #[142,3] ty #[.map (some ym),.int .i64 t]).run prog W2=.ok (.tuple #[]) w3:=λ_=>pV;clear pV;obtain⟨r0,r1,bQ,rt⟩:=R3;have f0:=bQ 0;have f1:=bQ 1;obtain⟨t0,t1⟩:=aW r0 r1 (.int .i64 oN) (.int .i64 oA);clear bQ;go_wp2_with (at_delete;refine jJ _ rfl _ _ 142 3 rfl rfl rfl (hdel _) ?_);refine Θ (v:=.tuple #[.agg #[.int .i64 oN,.int .i64 oA],.bool bb]) (by simp[results,results82,go_sem,t0,t1];try rfl) rfl ?_;exact⟨rfl,(((Z eD).h_ (δ rfl) 0 _).h_ (δ rfl) 1 _).less λj E=>ε E,((Z fY).box (Z HV) (ζ _) 0 _).box (Z HV) (ζ _) 1 _⟩
end
section
variable {B:Nat}{C:Dc}{ab7 V':Nat->Prop}{X:Nat->Option Obj}{Y F ym:Nat}{S S':Ds}{P P':Ps}{w w':World}{e:Nat->Addr}
def di (C:Dc)(S:Ds)(o:Bl):Prop:=iM C.m C.sz S.Q o.1 o.2/\∀t∈ez S.ws S.pl,o∉S.ct t
theorem PD.out (h:PD B C ab7 X Y F ym S P w)(o:Bl)(b:Bool)(J:b=true↔di C S o):Calls prog 155 #[.pointer (some ⟨C.c,0,none⟩),.agg #[.int .i64 o.1,.int .i64 o.2]] w λev w'=>ev=.returned (.bool b)/\Below w.heap.size w w':=by
 obtain⟨ly,bs,q,f,rb,p1,p2,p3⟩:=DQ.ex h.k;refine(IY C.N0 C.c C.z (ly.1,ly.2,_) C.sz C.m bs S.Q o.1 o.2 w p1.c (o_ p1) q f p2.ml).mono ?_;rintro ev w'⟨hB,G⟩;have hf:f o.1 o.2=none↔∀t∈ez S.ws S.pl,o∉S.ct t:=by
  constructor
  ·intro hn t ht hm;have:=(p2.lf o.1 o.2 t).2 ⟨ht,hm⟩;rw[hn]at this;cases this
  ·intro hn;cases hq:f o.1 o.2 with
   |none=>rfl
   |some t =>
    obtain⟨ht,hm⟩:=(p2.lf o.1 o.2 t).1 hq;exact absurd hm (hn t ht)
 refine⟨?_,hB⟩;rcases G with⟨rfl,O,h3⟩|⟨rfl,O⟩
 ·have e:b=true:=J.2 ⟨O,hf.1 h3⟩;rw[e]
 ·have e:b=false:=by
   cases b with
   |false=>rfl
   |true =>
    obtain⟨h3,h4⟩:=J.1 rfl;exact absurd ⟨h3,hf.2 h4⟩ O
  rw[e]
theorem qK (h:PD B C ab7 X Y F ym S P w){o:Bl}(ho:o∈P.T)(b:Bool)(J:b=true↔di C S o):Calls prog 80 #[.pointer (some ⟨Y,0,none⟩),.agg #[.int .i64 o.1,.int .i64 o.2]] w λev w'=>ev=.returned (.bool b)/\Below w.heap.size w w':=by
 have F1:=χ (γ w.heap.size w) (cB o.1 o.2);have H1:=h.b F1;have q':=θ w #[.int .i64 o.1,.int .i64 o.2] 34;have q0:=q' 0;have q1:=q' 1;simp only[Δ,υ,ω]at q0 q1;have hw:=h.m.t.wf o ho;have hlk:∀W,Below (w.alloc (cB o.1 o.2)).heap.size (w.alloc (cB o.1 o.2)) W->(Instr.lookup 141 (.map (some F)) (.agg #[.int .i64 o.1,.int .i64 o.2]) true).run prog W=.ok (.tuple #[.agg #[],.bool true]) W:=λW hW=>by
  have:=(H1.m.t.b hW).look hw;rw[show decide ((o.1,o.2)∈P.T)=true by simpa using ho]at this;exact this
 have c3:=H1.m.c3;have c0:=H1.m.c0;have hs1:w.heap.size<(w.alloc (cB o.1 o.2)).heap.size:=by simp
 have hpl:=H1.m.tg.lt;have dD:=I H1;have cZ:=I F1;have HO:=I (λW (hW:Below (w.alloc (cB o.1 o.2)).heap.size (w.alloc (cB o.1 o.2)) W)=>(H1.b hW).out o b J);have HC:=I (λW (hW:Below (w.alloc (cB o.1 o.2)).heap.size (w.alloc (cB o.1 o.2)) W)=>jB (DQ.db (H1.b hW).k).d0);obtain⟨oN,oA⟩:=o;simp only at*;clear h F1 H1 q' ho J hw;go_enter func80,ntmps80;go_upto_region 1 with(fail);generalize w.alloc (cB oN oA)=W at*;have Sw:=hlk W.drew (dw W);have Sx:=hlk (W.alloc (.cells #[] 151)).drew (χ (γ _ _) _).drew;clear hlk;go_region
 all_goals (
  have mS:Below W.heap.size W (W.alloc (.cells #[] 151)).drew:=(χ (γ _ _) _).drew;have d0:=(mS.cell (p:=⟨Y,0,none⟩) hpl).trans c0;have x0:=(mS.cell (p:=⟨w.heap.size,0,none⟩) hs1).trans q0;have x1:=(mS.cell (p:=⟨w.heap.size,1,none⟩) hs1).trans q1;have p_:=I ((Z HC) _ mS.drew);have AE:=I ((Z HO) _ mS.drew);have eA:=I (bW (Z cZ) mS);have sV:Y<(W.alloc (.cells #[] 151)).drew.drew.heap.size:=ι hpl mS.drew.size;have hs2:w.heap.size<(W.alloc (.cells #[] 151)).drew.drew.heap.size:=ι hs1 mS.drew.size;clear Sw Sx HC HO mS q0 q1 c0 c3 dD cZ hpl hs1;generalize(W.alloc (.cells #[] 151)).drew=W2 at*;generalize W.heap.size=b5 at*;have HK:Hid (W2.drew.cell? ⟨Y,0,none⟩=some (.pointer (some ⟨C.d,0,none⟩))/\W2.drew.cell? ⟨w.heap.size,0,none⟩=some (.int .i64 oN)/\W2.drew.cell? ⟨w.heap.size,1,none⟩=some (.int .i64 oA)):=⟨d0,x0,x1⟩;go_wp2_with fail;go_region_held3 (λw'=>w'.cell? ⟨Y,0,none⟩=some (.pointer (some ⟨C.d,0,none⟩))/\w'.cell? ⟨w.heap.size,0,none⟩=some (.int .i64 oN)/\w'.cell? ⟨w.heap.size,1,none⟩=some (.int .i64 oA)) ((first|exact Z HK|(go_keep;done)|assumption)) ((first
   |(go_at_call 72;refine(Z p_).mono ?_;rintro ev w3⟨rfl,rfl⟩)
   |(go_at_call 155;refine(Z AE).mono ?_;rintro ev w4⟨rfl,b4⟩;have SK4:w4.cell? ⟨Y,0,none⟩=some (.pointer (some ⟨C.d,0,none⟩))/\w4.cell? ⟨w.heap.size,0,none⟩=some (.int .i64 oN)/\w4.cell? ⟨w.heap.size,1,none⟩=some (.int .i64 oA):=⟨(b4.cell (p:=⟨Y,0,none⟩) sV).trans (Z HK).1,(b4.cell (p:=⟨w.heap.size,0,none⟩) hs2).trans (Z HK).2.1,(b4.cell (p:=⟨w.heap.size,1,none⟩) hs2).trans (Z HK).2.2⟩)))
  all_goals (
   go_wp2;go_ret;exact⟨rfl,bW (Z eA).drew b4⟩))
end
section
variable {B:Nat}{C:Dc}{ab7 V':Nat->Prop}{X:Nat->Option Obj}{Y F ym:Nat}{S S':Ds}{P P':Ps}{w w':World}{e:Nat->Addr}
theorem PD.Nz (h:PD B C ab7 X Y F ym S P w){t:Nat}(hw:(Lit.int .i64 (t:Int)).wf=true)(o:Bl)(hn:t∉P.ab6.map (·.1))(hq:P.q<maxLen):∃w',(Instr.mapUpdate 142 (.map (some ym)) (.int .i64 t) (.agg #[.int .i64 o.1,.int .i64 o.2])).run prog w=.ok () w'/\PD B C ab7 X Y F ym S {P with ab6:=P.ab6++[(t,o)],q:=P.q+1} w'/\PF ab7 P {P with ab6:=P.ab6++[(t,o)],q:=P.q+1} w w'/\Kp (λb=>b=ym) w w':=by
 obtain⟨w',hr,hm,D⟩:=h.m.y.put hq hw o.1 o.2 hn;have hK:Kp (λb=>b=ym) w w':=Kp.kept D rfl rfl;have Sp:=h.m.maps (w':=w') (λb J=>D.block b (by
  rcases J with rfl|J|J
  ·exact h.m.tg.lt
  ·exact(ay h.m.r J).1.lt
  ·exact(ay h.m.l J).1.lt) (h.m.yr J).2 (h.m.yr J).2) ((h.m.t.blk (D.block F h.m.t.lt h.m.ne h.m.ne)).mono (Nat.le_succ _)) hm
 obtain⟨G,O⟩:=h.own Sp (hK.mono λk _ e=>δ (δ (ε e))) (λj E=>ε E) (λj E=>ε E);exact⟨w',hr,G,O,hK⟩
theorem yw (h:PD B C ab7 X Y F ym S P w){t:Nat}{L:List Nat}(hL:P.L=t::L)(ht:(Lit.int .i64 (t:Int)).wf=true)(hn:t∉P.ab6.map (·.1))(hq:P.q<maxLen)(x:Int)(o:Bl):
  Calls prog 81 #[.pointer (some ⟨Y,0,none⟩),.int .i64 x,.agg #[.int .i64 o.1,.int .i64 o.2]] w λev w'=>ev=.returned .nilIface/\∃ic,PD B C ab7 X Y F ym S {P with ab6:=P.ab6++[(t,o)],q:=P.q+1,L:=L,vl:=ic} w'/\PF ab7 P {P with ab6:=P.ab6++[(t,o)],q:=P.q+1,L:=L,vl:=ic} w w':=by
 have F1:=χ (γ w.heap.size w) (cB o.1 o.2);have H1:=h.b F1;have cZ:=h.fb F1;have q':=θ w #[.int .i64 o.1,.int .i64 o.2] 34;have q0:=q' 0;have q1:=q' 1;simp only[Δ,υ,ω]at q0 q1;have H2:=H1.b (dw _);have eA:=cZ.trans ((H1.fb (dw _)).mono λj E=>E);obtain⟨b,c,hv,hc0,jR⟩:=Jj H2.m hL;obtain⟨w3,xS,H3,P3,K3⟩:=H2.Nz ht o hn hq;have rB:=H2.m.y.aQ;have hbl:OB P.vl b:=by rw[hv];rfl
 have vG:=(ay H2.m.l hbl).1;have U1:b≠ym:=λe=>by obtain⟨o',e1,e2⟩:=rB;exact aj e1 e2 vG e.symm
 have hb3:=K3.blk b vG.lt U1;have WJ:=I (jR w3 hb3);have c4:=H1.m.c4;have c5:=H1.m.c5;have hc1:(w.alloc (cB o.1 o.2)).cell? ⟨b,0,none⟩=some (.int .i64 t):=hc0;have Zy:=H3.m.c5;have f53:=H3.m.fz 5;have GZ:b≠Y:=vG.ne H2.m.tg (by decide);have T3:=H3.m.tg;have H3l:=H3.m.l;simp only at Zy H3l;rw[hv]at c5 Zy;have eD:=I H3;have fY:=I (eA.trans P3);have HB:=I hbl;have Zz:=I (vG.blk hb3);have d1:decide (((L.length+1:Nat):Int)>0)=true:=by simp
 have d2:decide ((0:Int)<((L.length+1:Nat):Int))=true:=by simp
 obtain⟨oN,oA⟩:=o;simp only at*;clear h F1 H1 cZ H2 eA jR q' H3 P3 K3 rB hbl vG hb3 hc0 hL hn hq ht U1 H3l hv;go_enter func81,ntmps81;go_upto_region 2 with(fail);generalize w.alloc (cB oN oA)=W at*;go_region
 go_wp2_with fail;refine(Z WJ).mono ?_;rintro ev w4⟨rfl,o4,k4⟩;have S3:=Z eD;have K4:Kp (PB Y F ym {P with ab6:=P.ab6++[(t,(oN,oA))],q:=P.q+1}) w3 w4:=(Kp.kept (S:=λj=>j=b) k4 rfl rfl).mono λk _ e=>by
  obtain rfl:k=b:=e;exact δ (δ (δ (δ (Z HB))))
 have hne:∀j,j=Y\/j=F\/j=ym\/OB P.vr j->w4.heap[j]?=w3.heap[j]?:=λj E=>by
  have hjb:j≠b:=by
   rcases E with h|h|h|h
   ·exact λe=>GZ (e.symm.trans h)
   ·obtain⟨o,e1,e2⟩:=S3.m.t.aQ;exact λe=>aj e1 e2 (Z Zz) (h.symm.trans e)
   ·obtain⟨o,e1,e2⟩:=S3.m.y.aQ;exact λe=>aj e1 e2 (Z Zz) (h.symm.trans e)
   ·exact((ay S3.m.r h).1.ne (Z Zz) (by decide))
  have hlt:j<w3.heap.size:=(S3.m.lt (b:=j) (by
   rcases E with h|h|h|h
   ·exact ε h
   ·exact δ (ε h)
   ·exact δ (δ (ε h))
   ·exact δ (δ (δ (ε h))))).1
  exact k4.block j hlt hjb hjb
 have M5:=S3.m.AZ hne o4;have K5:Kp (PB Y F ym {P with ab6:=P.ab6++[(t,(oN,oA))],q:=P.q+1}) w3 (w4.setCell ⟨Y,5,none⟩ (.slice (some ⟨b,0,none⟩) L.length c)):=K4.trans (Kp.set w4 Y 5 _ (ε rfl));obtain⟨H5,P5⟩:=S3.own M5 K5 (λj E=>ε E) (λj E=>ε (by
  have:b=j:=by simpa[OB,Value.ownBlock]using E
  rw[<- this];exact Z HB))
 have gW:=I H5;have iY:=I ((Z fY).trans P5);have z5:w4.cell? ⟨Y,5,none⟩=some (.slice (some ⟨b,0,none⟩) (L.length+1) c):=(η (a:=⟨Y,5,none⟩) (hne Y (ε rfl))).trans Zy;have y5:w4.frozen? ⟨Y,5,none⟩=false:=(π (a:=⟨Y,5,none⟩) (hne Y (ε rfl))).trans f53;clear K4 hne M5 K5 H5 P5 S3 eD fY HB Zz o4 k4 WJ Zy f53 T3;go_wp2;go_ret;exact⟨rfl,_,Z gW,Z iY⟩
end
section
variable {B:Nat}{C:Dc}{ab7 V':Nat->Prop}{X:Nat->Option Obj}{Y F ym:Nat}{S S':Ds}{P P':Ps}{w w':World}{e:Nat->Addr}
theorem PD.dropped (h:PD B C ab7 X Y F ym S P w){o:Bl}(ho:o∈P.T)(ty:TypeId):∃w',(Builtin.delete_ #[141,34] ty #[.map (some F),.agg #[.int .i64 o.1,.int .i64 o.2]]).run prog w=.ok (.tuple #[]) w'/\PD B C ab7 X Y F ym S {P with T:=P.T.erase o} w'/\PF ab7 P {P with T:=P.T.erase o} w w'/\Kp (λb=>b=F) w w':=by
 obtain⟨w',hr,hm,D⟩:=h.m.t.drop (h.m.t.wf o ho) ho ty;have hK:Kp (λb=>b=F) w w':=Kp.kept D rfl rfl;have Sp:=h.m.maps (w':=w') (λb J=>D.block b (by
  rcases J with rfl|J|J
  ·exact h.m.tg.lt
  ·exact(ay h.m.r J).1.lt
  ·exact(ay h.m.l J).1.lt) (h.m.yr J).1 (h.m.yr J).1) hm (h.m.y.blk (D.block ym h.m.y.lt h.m.ne.symm h.m.ne.symm))
 obtain⟨G,O⟩:=h.own Sp (hK.mono λk _ e=>δ (ε e)) (λj E=>ε E) (λj E=>ε E);exact⟨w',hr,G,O,hK⟩
theorem Fp (h:PD B C ab7 X Y F ym S P w)(he:dM C.w0 e){t:Nat}{L:List Nat}(hL:P.L=t::L)(ht:(Lit.int .i64 (t:Int)).wf=true)(hn:t∉P.ab6.map (·.1))(hq:P.q<maxLen){x:Int}(hx:0<=x/\x<S.ws.length){o:Bl}(ho:o∈P.T)(hI:di C S o):
  Calls prog 19 #[.pointer (some ⟨Y,0,none⟩),.int .i64 x,.agg #[.int .i64 o.1,.int .i64 o.2]] w λev w'=>ev=.returned .nilIface/\∃ic,PD B C ab7 X Y F ym S {P with T:=P.T.erase o,ab6:=P.ab6++[(t,o)],q:=P.q+1,L:=L,vl:=ic} w'/\PF ab7 P {P with T:=P.T.erase o,ab6:=P.ab6++[(t,o)],q:=P.q+1,L:=L,vl:=ic} w w':=by
 have F1:=χ (γ w.heap.size w) (cB o.1 o.2);have T1:=bB w #[.int .i64 o.1,.int .i64 o.2] 34;have H1:=h.more F1 (ζ _) T1;have cZ:=I (h.fb F1);have q':=θ w #[.int .i64 o.1,.int .i64 o.2] 34;have q0:=q' 0;have q1:=q' 1;simp only[Δ,υ,ω]at q0 q1;have kH:=I (H1.check he x);rw[af hx]at kH;have gM:=I (qK H1 ho true ⟨λ_=>hI,λ_=>rfl⟩);have WK:=I ho;have KU:Hid (∀W,PD B C (λj=>ab7 j\/j=w.heap.size) X Y F ym S P W->Calls prog 81 #[.pointer (some ⟨Y,0,none⟩),.int .i64 x,.agg #[.int .i64 o.1,.int .i64 o.2]] W λev w'=>ev=.returned .nilIface/\∃ic,PD B C (λj=>ab7 j\/j=w.heap.size) X Y F ym S {P with ab6:=P.ab6++[(t,o)],q:=P.q+1,L:=L,vl:=ic} w'/\PF (λj=>ab7 j\/j=w.heap.size) P {P with ab6:=P.ab6++[(t,o)],q:=P.q+1,L:=L,vl:=ic} W w'):=λW hW=>yw hW hL ht hn hq x o;have HV:=I h.uu;have dD:=I H1;have hbl:w.heap.size<(w.alloc (cB o.1 o.2)).heap.size:=by simp
 have IV:=I T1;obtain⟨oN,oA⟩:=o;simp only at*;clear h he hL ht hn hq hx ho hI F1 T1 H1 q';go_enter func19,ntmps19;go_upto_region 1 with(fail);generalize w.alloc (cB oN oA)=W at*;go_wp2_with fail;refine(Z kH).mono ?_;rintro ev w1⟨rfl,rfl⟩;clear kH;go_wp2_with fail;refine(Z gM).mono ?_;rintro ev w2⟨rfl,b2⟩;have H2:=(Z dD).b b2;have eA:=(Z cZ).trans (((Z dD).fb b2).mono λj E=>ε E);have x0:=(b2.cell (p:=⟨w.heap.size,0,none⟩) hbl).trans q0;have x1:=(b2.cell (p:=⟨w.heap.size,1,none⟩) hbl).trans q1;have zz:=I ((Z KU) w2 H2);have A9:=I eA;have ni:=I ((Z IV).b b2);clear gM dD cZ q0 q1 hbl KU b2 H2 eA IV;go_wp2_with fail;refine(Z zz).mono ?_;rintro ev w3⟨rfl,ic,H3,P3⟩;have hb3:=P3.v w.heap.size (δ rfl);have y0:=(η (a:=⟨w.heap.size,0,none⟩) hb3).trans x0;have y1:=(η (a:=⟨w.heap.size,1,none⟩) hb3).trans x1;have T3:=(Z ni).blk hb3;obtain⟨w4,pV,H4,P4,K4⟩:=(H3.b (dw w3)).dropped (Z WK) 0;have hdel:∀ty,(Builtin.delete_ #[141,34] ty #[.map (some F),.agg #[.int .i64 oN,.int .i64 oA]]).run prog w3.drew=.ok (.tuple #[]) w4:=λ_=>pV;have c3:=H3.m.c3;have jI:=I (((Z A9).trans (P3.mono λj E=>ε E)).trans ((((H3.fb (dw w3))).mono λj E=>ε E).trans (P4.mono λj E=>ε E)));have Fo:=I (H4.less (V':=ab7) λj E=>ε E);clear pV H4 P4 K4 H3 P3 hb3 zz A9 ni x0 x1 T3;go_wp2_with fail;go_region
 go_wp2;go_ret;exact⟨rfl,ic,Z Fo,Z jI⟩
end
section
variable {B:Nat}{C:Dc}{ab7 V':Nat->Prop}{X:Nat->Option Obj}{Y F ym:Nat}{S S':Ds}{P P':Ps}{w w':World}{e:Nat->Addr}
theorem Fq (h:PD B C ab7 X Y F ym S P w){t:Int}(ht:(Lit.int .i64 t).wf=true){o:Bl}(hy:fT P.ab6 t=some o)(ho:o∉P.T)(hw:W2 o.1 o.2)(hq:P.q<maxLen):
  Calls prog 20 #[.pointer (some ⟨Y,0,none⟩),.int .i64 t] w λev w'=>ev=.returned (.tuple #[bz o.1 o.2,.bool true,.nilIface])/\PD B C ab7 X Y F ym S {P with ab6:=g_ P.ab6 t,T:=P.T++[o],q:=P.q+1} w'/\PF ab7 P {P with ab6:=g_ P.ab6 t,T:=P.T++[o],q:=P.q+1} w w':=by
 have F1:=χ (γ w.heap.size w) (cB 0 0);have R1:=cQ w;have H1:=h.more F1 (ζ _) R1.tg;have cZ:=I (h.fb F1);have nD:=I (lX H1 ht);rw[hy]at nD;have fk:=I R1;have HV:=I h.uu;have HO:=I ho;have HW:=I hw;obtain⟨oN,oA⟩:=o;simp only[bY,Option.isSome_some]at nD;clear h F1 H1 hy ho hw R1 ht;unfold bz at*;simp only at*;go_enter func20,ntmps20;go_upto_region 1 with(fail);generalize w.alloc (cB 0 0)=W at*;go_wp2_with fail;refine(Z nD).mono ?_;rintro ev w2⟨rfl,H2,P2⟩;have R2:=(Z fk).blk (P2.v w.heap.size (δ rfl));have eA:=(Z cZ).trans (P2.mono λj E=>ε E);have F3:=χ (γ w2.heap.size w2) (cB oN oA);have q':=θ w2 #[.int .i64 oN,.int .i64 oA] 34;have q0:=q' 0;have q1:=q' 1;simp only[Δ,υ,ω]at q0 q1;have T9:=bB w2 #[.int .i64 oN,.int .i64 oA] 34;have H3:=H2.b F3;have R3:=R2.b F3;have fY:=eA.trans ((H2.fb F3).mono λj E=>ε E);have H4:=H3.b (dw _);obtain⟨w5,xS,H5,P5,K5⟩:=H4.took (Z HW) (Z HO) (show P.q<maxLen from hq);have c3:=H3.m.c3;have GA:=H4.m.t.aQ;have R5:=(R3.b (dw _)).blk (w':=w5) (K5.blk w.heap.size (R3.b (dw _)).tg.lt (λe=>by obtain⟨o',e1,e2⟩:=GA;exact aj e1 e2 (R3.b (dw _)).tg e.symm));have ZA:=T9.b (dw _);have Jm:w2.heap.size≠F:=λe=>by obtain⟨o',e1,e2⟩:=GA;exact aj e1 e2 ZA e.symm
 have q50:=(K5.cell (p:=⟨w2.heap.size,0,none⟩) ZA.lt Jm).trans q0;have q51:=(K5.cell (p:=⟨w2.heap.size,1,none⟩) ZA.lt Jm).trans q1;have iY:=I ((fY.trans ((H3.fb (dw _)).mono λj E=>ε E)).trans (P5.mono λj E=>ε E));have gW:=I H5;simp only at xS;clear H2 P2 R2 eA F3 q' T9 H3 R3 fY H4 H5 P5 K5 GA ZA nD fk cZ HO HW;go_upto_region 3 with(fail);generalize w2.alloc (cB oN oA)=W3 at*;generalize w2.heap.size=b9 at*;go_region
 obtain⟨r0,r1,bQ,rt⟩:=R5;have f0:=bQ 0;have f1:=bQ 1;obtain⟨t0,t1⟩:=aW r0 r1 (.int .i64 oN) (.int .i64 oA);clear bQ xS c3;go_wp2;refine Θ (v:=.tuple #[.agg #[.int .i64 oN,.int .i64 oA],.bool true,.nilIface]) (by simp[results,results20,go_sem,t0,t1];try rfl) rfl ?_;exact⟨rfl,(((Z gW).h_ (δ rfl) 0 _).h_ (δ rfl) 1 _).less λj E=>ε E,((Z iY).box (Z HV) (ζ _) 0 _).box (Z HV) (ζ _) 1 _⟩
end
def pG (n:Nat):Ps:=⟨n,[],[],[],[],0,0,.slice none 0 0,.slice none 0 0⟩
theorem A_ {j:Nat}{n c:Nat}:¬OB (.slice none n c) j:=λh=>by simp[OB,Value.ownBlock]at h
def qg (w:World)(d n:Nat):World:=((w.alloc (.map #[] 0)).alloc (.map #[] 0)).alloc (.cells #[.pointer (some ⟨d,0,none⟩),.int .i64 n,.slice none 0 0,.map (some w.heap.size),.map (some (w.heap.size+1)),.slice none 0 0,.int .i64 0] 144)
section
variable {B:Nat}{C:Dc}{ab7 V':Nat->Prop}{X:Nat->Option Obj}{Y F ym:Nat}{S S':Ds}{P P':Ps}{w w':World}{e:Nat->Addr}{x y:Int}{u:Bool}{r:Option Nat}{o:Bl}
theorem Jn (h:mV C S x y u r o S'):S'.ws.length=S.ws.length:=by cases h<;>simp
theorem Ba (w:World)(d n:Nat):Below w.heap.size w (qg w d n):=χ (χ (χ (γ _ _) _) _) _
theorem PD.start (h:DK C ab7 X S w)(Sy:C.w0.heap.size<=B)(hB:B<=w.heap.size)(n:Nat):PD B C ab7 X (w.heap.size+1+1) w.heap.size (w.heap.size+1) S (pG n) (qg w C.d n):=by
 have b:=Ba w C.d n;have hs1:(w.alloc (.map #[] 0)).heap.size=w.heap.size+1:=by simp
 have hs2:((w.alloc (.map #[] 0)).alloc (.map #[] 0)).heap.size=w.heap.size+1+1:=by simp
 have q':=θ ((w.alloc (.map #[] 0)).alloc (.map #[] 0)) #[.pointer (some ⟨C.d,0,none⟩),.int .i64 n,.slice none 0 0,.map (some w.heap.size),.map (some (w.heap.size+1)),.slice none 0 0,.int .i64 0] 144;have tg:=bB ((w.alloc (.map #[] 0)).alloc (.map #[] 0)) #[.pointer (some ⟨C.d,0,none⟩),.int .i64 n,.slice none 0 0,.map (some w.heap.size),.map (some (w.heap.size+1)),.slice none 0 0,.int .i64 0] 144;rw[hs2]at q' tg;have fz:∀o,(qg w C.d n).frozen? ⟨w.heap.size+1+1,o,none⟩=false:=λo=>aG _ _ (w.heap.size+1+1) o hs2.symm;have M1:=(Mo.made w).b (χ (γ _ _) (.map #[] 0));have M2:=M1.b (χ (γ _ _) (.cells #[.pointer (some ⟨C.d,0,none⟩),.int .i64 n,.slice none 0 0,.map (some w.heap.size),.map (some (w.heap.size+1)),.slice none 0 0,.int .i64 0] 144));have Y1:=My.made (w.alloc (.map #[] 0));rw[hs1]at Y1;have Y2:=Y1.b (χ (γ _ _) (.cells #[.pointer (some ⟨C.d,0,none⟩),.int .i64 n,.slice none 0 0,.map (some w.heap.size),.map (some (w.heap.size+1)),.slice none 0 0,.int .i64 0] 144));have hm:jo B (qg w C.d n) (w.heap.size+1+1) C.d w.heap.size (w.heap.size+1) (pG n):=⟨q' 0,q' 1,q' 2,q' 3,q' 4,q' 5,q' 6,tg,fz,Ξ _ _ _ _,Ξ _ _ _ _,M2,Y2,by omega,by omega,⟨hB,by omega⟩⟩;have hx:∀j o,X j=some o->j<w.heap.size:=λj o e=>(Array.getElem?_eq_some_iff.mp (h.map e).1).1;have Lv:X w.heap.size=none/\X (w.heap.size+1)=none:=by
  constructor
  ·cases e:X w.heap.size with
   |none=>rfl
   |some o=>have:=hx _ _ e;omega
  ·cases e:X (w.heap.size+1)with
   |none=>rfl
   |some o=>have:=hx _ _ e;omega
 have yq:=λj (E:ab7 j)=>(DQ.uk h j E).lt;have hK:DK C (λj=>ab7 j\/OB (pG n).vr j) (X2 w.heap.size (w.heap.size+1) X (qg w C.d n)) S (qg w C.d n):=by
  refine h.iV (T:=λ_=>False) (Kp.below b) (λ_ _ _ _ _ _ _ _=>id) (λ_ h=>h.elim) (λ_ h=>h.elim) (λj o e=>?_) (λj E=>?_)
  ·unfold X2 at e;by_cases E:j=w.heap.size\/j=w.heap.size+1
   ·rw[af E]at e;refine⟨e,?_,δ (by omega)⟩;rcases E with rfl|rfl
    ·obtain⟨o',e1,e2⟩:=hm.t.aQ;rw[e1]at e;rw[<- ah e];exact e2
    ·obtain⟨o',e1,e2⟩:=hm.y.aQ;rw[e1]at e;rw[<- ah e];exact e2
   ·rw[ai E]at e;exact⟨(b.block j (hx j o e)).trans (h.map e).1,(h.map e).2,ε ⟨o,e⟩⟩
  ·rcases E with E|E
   ·exact⟨(DQ.uk h j E).b b,ε E⟩
   ·exact absurd E A_
 exact⟨hK,hm,λ_ _ _ _ _ _ _ _ E=>A_ E,λj E=>absurd E A_,Lv,Sy⟩
theorem PD.push (h:PD B C ab7 X Y F ym S P w){W w4:World}{o:Bl}{v':Value}(BA:Below w.heap.size w W)(o4:w4.ownsRow B 34 2 v' (P.R++[o]).length (flat (P.R++[o])))(D:Kp (λb=>OB P.vr b) W w4)(hg:∀j,OB v' j->OB P.vr j\/w.heap.size<=j):
  PD B C ab7 X Y F ym S {P with R:=P.R++[o],vr:=v'} (w4.setCell ⟨Y,2,none⟩ v')/\PF ab7 P {P with R:=P.R++[o],vr:=v'} w (w4.setCell ⟨Y,2,none⟩ v'):=by
 have G:=h.b BA;have hne:∀b,b=Y\/b=F\/b=ym\/OB P.vl b->w4.heap[b]?=W.heap[b]?:=λb J=>by
  have WG:PB Y F ym P b:=by
   rcases J with h|h|h|h
   ·exact ε h
   ·exact δ (ε h)
   ·exact δ (δ (ε h))
   ·exact δ (δ (δ (δ h)))
  refine D.blk b (G.m.lt WG).1 (λho=>?_);have ht:=(ay G.m.r ho).1;rcases J with h|h|h|h
  ·exact(h▸ht).ne G.m.tg (by decide) rfl
  ·obtain⟨o,e1,e2⟩:=G.m.t.aQ;exact aj e1 e2 (h▸ht) rfl
  ·obtain⟨o,e1,e2⟩:=G.m.y.aQ;exact aj e1 e2 (h▸ht) rfl
  ·exact ht.ne (ay G.m.l h).1 (by decide) rfl
 have hM:=G.m.Fi hne o4;have hK:Kp (PB Y F ym P) w (w4.setCell ⟨Y,2,none⟩ v'):=((Kp.below BA).trans (D.mono λk _ e=>δ (δ (δ (ε e))))).trans (Kp.set w4 Y 2 v' (ε rfl));exact h.own hM hK hg (λj E=>ε E)
end
section
variable {B:Nat}{C:Dc}{ab7 V':Nat->Prop}{X:Nat->Option Obj}{Y F ym:Nat}{S S':Ds}{P P':Ps}{w w':World}{e:Nat->Addr}{x y:Int}{u:Bool}{r:Option Nat}{o:Bl}
theorem Sz (h:DK C ab7 X S w)(hN:C.w0.heap.size<=C.N0)(he:dM C.w0 e)(Sy:C.w0.heap.size<=B)(hB:B<=w.heap.size){n:Nat}(hn:1<=n/\n<=16)(y:Int)(Φ : Ds->List Bl->Prop)(h0 : Φ S [])
  (hst:∀(S:Ds) (R:List Bl) (r:Option Nat) (o:Bl) (S':Ds) (U:Nat->Prop) (X:Nat->Option Obj) (w:World),R.length<n->Φ S R->DK C U X S w->mV C S 0 y true r o S'->r=none/\Φ S' (R++[o])):
  Calls prog 14 #[.pointer (some ⟨C.d,0,none⟩),.int .i64 y,.int .i64 n] w λev w'=>ev=.returned (.tuple #[.pointer (some ⟨w.heap.size+1+1,0,none⟩),.nilIface])/\∃S' R vr,R.length=n/\Φ S' R/\PD B C ab7 X (w.heap.size+1+1) w.heap.size (w.heap.size+1) S' {pG n with R:=R,vr:=vr} w'/\PF ab7 (pG n) {pG n with R:=R,vr:=vr} w w':=by
 have yq:=λj (E:ab7 j)=>(DQ.uk h j E).lt;have H0:=I (PD.start h Sy hB n);have F0:=I (PF.below (P:=pG n) yq (Ba w C.d n));have HV:=I yq;have HST:=I hst;have WL:=I h0;have HE:=I he;have d1:decide ((n:Int)<1)=false:=by simp;omega
 have d2:decide ((n:Int)>16)=false:=by simp;omega
 have d3:decide ((16:Int)<(n:Int))=false:=by simp;omega
 clear yq hst h0 h he;unfold qg at*;have f_:=@run_makeMap prog;go_enter func14,ntmps14;go_upto_region 6 with(fail);clear f_;generalize((w.alloc (.map #[] 0)).alloc (.map #[] 0)).alloc (.cells #[.pointer (some ⟨C.d,0,none⟩),.int .i64 n,.slice none 0 0,.map (some w.heap.size),.map (some (w.heap.size+1)),.slice none 0 0,.int .i64 0] 144)=W at*;go_wp2_with fail;go_loopw [28] (λs wr=>∃(j:Nat) (S1:Ds) (R:List Bl) (vr:Value),s=.int .i64 j/\j<=n/\R.length=j/\Hid (Φ S1 R)/\Hid (PD B C ab7 X (w.heap.size+1+1) w.heap.size (w.heap.size+1) S1 {pG n with R:=R,vr:=vr} wr)/\Hid (PF ab7 (pG n) {pG n with R:=R,vr:=vr} w wr)) (λs _=>n-(intOf s).toNat)
 case atStart=>exact⟨0,S,[],.slice none 0 0,rfl,Γ _,rfl,WL,H0,F0⟩
 case round =>
  clear H0 F0 WL;obtain⟨j,S1,R,vr,rfl,E,hl,yx,hD,hF⟩:=hrel;by_cases Mt:j<n
  ·have qm:(j:Int)<(n:Int):=by omega
   have Ul:=Z hD;have gL:=I (Ul.k.take hN (Z HE).Ro 0 y true);have WM:Hid (∀r o S',mV C S1 0 y true r o S'->r=none/\Φ S' (R++[o])):=λr o S' hT=>(Z HST) S1 R r o S' _ _ wr (by omega) (Z yx) Ul.k hT;clear Ul;go_wp2_with fail;refine(Z gL).mono ?_;rintro ev w2⟨r,⟨oN,oA⟩,S2,rfl,hT,D2,U2⟩;obtain⟨rfl,WN⟩:=(Z WM) r (oN,oA) S2 hT;obtain⟨H2,P2⟩:=(Z hD).turn D2 U2;have SA:=I WN;have eA:=(Z hF).trans P2;have F3:=χ (γ w2.heap.size w2) (cB oN oA);have q':=θ w2 #[.int .i64 oN,.int .i64 oA] 34;have q0:=q' 0;have q1:=q' 1;simp only[Δ,υ,ω]at q0 q1;have H3:=H2.b F3;have fY:=I (eA.trans (H2.fb F3));have c2:=H3.m.c2;have f2:=H3.m.fz 2;have r3:=H3.m.r;have T3:=H3.m.tg;simp only at c2 r3;obtain⟨pp,cp,lU⟩:=aX r3;rw[hl]at lU;have A8:=I lU;rw[lU]at c2;rw[lU,hl]at r3;have eD:=I H3;have hBs:B<=w2.heap.size:=σ H2.m.ge (ck H2.m.tg.lt);clear gL WM hT D2 U2 WN H2 P2 eA F3 q' H3 hD hF yx lU;unfold bz wO at*;simp only at*;go_upto_region 12 with(fail);generalize w2.alloc (cB oN oA)=W3 at*;have BA:Below W3.heap.size W3 (W3.alloc (cB oN oA)).drew:=(χ (γ _ _) _).drew;have iE:=aN r3 BA;have ir:=T3.b BA;have hNb:B<=(W3.alloc (cB oN oA)).drew.heap.size:=σ (σ (Z eD).m.ge (ck T3.lt)) BA.size;have j9:=(BA.cell (p:=⟨w.heap.size+1+1,2,none⟩) T3.lt).trans c2;have j_:=(BA.frozen (p:=⟨w.heap.size+1+1,2,none⟩) T3.lt).trans f2;go_wp2_with fail;go_region_law (refine lT rfl (.tmp 45) (.tmp 47) rfl B (.slice pp j cp) j (flat R) (by simp[Act.eval]) iE (by simp[Act.eval]) (by omega) hNb ?_;intro g4 c4 w4 o4 q4 hg4 kE;have e4:=q4.block (w.heap.size+1+1) ir.lt (d_ iE ir (by decide));have sQ:w4.cell? ⟨w.heap.size+1+1,2,none⟩=some (.slice pp j cp):=(η (a:=⟨w.heap.size+1+1,2,none⟩) e4).trans j9;have ue:w4.frozen? ⟨w.heap.size+1+1,2,none⟩=false:=(π (a:=⟨w.heap.size+1+1,2,none⟩) e4).trans j_);all_goals
    have ui:w4.ownsRow B 34 2 (.slice (some ⟨g4,0,none⟩) (j+1) c4) (R++[(oN,oA)]).length (flat (R++[(oN,oA)])):=by
     rw[φ,hl,bM];exact o4
    have hk4:Kp (λb=>OB vr b) (W3.alloc (cB oN oA)).drew w4:=⟨q4.os,q4.tape,q4.output,q4.size,λk D hn=>q4.block k D (λe=>hn (by rw[Z A8];exact e.symm))⟩;have hG:∀b,OB (.slice (some ⟨g4,0,none⟩) (j+1) c4) b->OB vr b\/W3.heap.size<=b:=λb J=>by
     obtain rfl:g4=b:=by simpa[OB,Value.ownBlock]using J
     rcases hg4 with h|h
     ·exact ε (by rw[Z A8];exact h)
     ·right;have G:=BA.size;omega
    obtain⟨H5,P5⟩:=(Z eD).push (o:=(oN,oA)) BA ui hk4 hG;have gW:=I H5;have iY:=I ((Z fY).trans P5);have rH:(R++[(oN,oA)]).length=j+1:=by simp[hl]
    clear hG hk4 ui H5 P5 o4 q4 hg4 kE e4 sQ ue j9 j_ iE BA ir hNb;generalize w4.setCell ⟨w.heap.size+1+1,2,none⟩ (.slice (some ⟨g4,0,none⟩) (j+1) c4)=w5 at*;go_wp2_with fail;go_roundw;case rel=>exact⟨j+1,S2,R++[(oN,oA)],_,by go_num,by omega,rH,SA,gW,iY⟩
    case measure=>simp[intOf];omega
  ·obtain rfl:j=n:=by omega
   have kn:¬(j:Int)<j:=by omega
   go_wp2_with fail;go_ret2;exact⟨rfl,S1,R,hl,Z yx,vr,Z hD,Z hF⟩
end
structure FP (pg:Nat)(C:Dc)(S:Ds)(P:Ps)(l:List Bl):Prop where
 fs:FS pg C S l
 sub:∀o∈P.R++(P.T++P.ab6.map (·.2)),o∈l
 V:(P.R++(P.T++P.ab6.map (·.2))).Nodup
 len:P.R.length+(P.T.length+P.ab6.length)=l.length
 mn:C.mn=0
 ws:S.ws.length=1
def VF (ab7:Nat->Prop)(w w':World):Prop:=(∀k,ab7 k->w'.heap[k]?=w.heap[k]?)/\w.heap.size<=w'.heap.size
theorem PF.vf {ab7:Nat->Prop}{P P':Ps}{w w':World}(h:PF ab7 P P' w w'):VF ab7 w w':=⟨h.v,h.z⟩
def PZ (B:Nat)(C:Dc)(ab7:Nat->Prop)(Y F ym pg:Nat)(T:List Bl)(ab6:List (Nat×Bl))(L:List Nat)(tk q n:Nat)(w:World):Prop :=
 ∃S P l,PD B C ab7 (λ_=>none) Y F ym S P w/\FP pg C S P l/\P.T=T/\P.ab6=ab6/\P.L=L/\P.tk=tk/\P.q<=q/\P.R.length=n
section
variable {B:Nat}{C:Dc}{ab7 V':Nat->Prop}{X:Nat->Option Obj}{Y F ym pg tk q n:Nat}{S S':Ds}{P P':Ps}{w w':World}{e:Nat->Addr}{x y:Int}{u:Bool}{r:Option Nat}{o:Bl}{l T:List Bl}{ab6:List (Nat×Bl)}{L:List Nat}
theorem FS.le (h:FS pg C S l):l.length<=pg*C.m:=by
 have G:S.Q.length<=pg:=by have:=h.fi.pg;have:=(mD (l:=(S.V 0).aca)).1;omega
 have O:=qJ C.m S.Q;have h3:S.Q.length*C.m<=pg*C.m:=gA _ G;have h4:=h.fi.tt;omega
theorem FS.w2 (h:FS pg C S l){U:Nat->Prop}(hD:DK C U X S w)(ho:o∈l):W2 o.1 o.2:=by
 obtain⟨ly,bs,q,f,rb,hP,O,h3⟩:=DQ.ex hD;exact iM.w2 hP.c (h.tk o ho)
theorem FS.out (h:FS pg C S l)(ho:o∈l):di C S o:=⟨h.tk o ho,λt _=>by rw[h.ct];simp⟩
theorem PZ.le (h:PZ B C ab7 Y F ym pg T ab6 L tk q n w):n+(T.length+ab6.length)<=pg*C.m:=by
 obtain⟨S,P,l,hD,hF,rfl,rfl,rfl,rfl,_,rfl⟩:=h;have:=hF.len;have:=hF.fs.le;omega
theorem PZ.b (h:PZ B C ab7 Y F ym pg T ab6 L tk q n w)(J:Below w.heap.size w w'):PZ B C ab7 Y F ym pg T ab6 L tk q n w':=by
 obtain⟨S,P,l,hD,hr⟩:=h;exact⟨S,P,l,hD.b J,hr⟩
theorem PZ.more (h:PZ B C ab7 Y F ym pg T ab6 L tk q n w)(J:Below w.heap.size w w'){b:Nat}(hw:w.heap.size<=b)(ht:Tag w' b 34):PZ B C (λj=>ab7 j\/j=b) Y F ym pg T ab6 L tk q n w':=by
 obtain⟨S,P,l,hD,hr⟩:=h;exact⟨S,P,l,hD.more J hw ht,hr⟩
theorem PZ.low (h:PZ B C ab7 Y F ym pg T ab6 L tk q n w):Below C.w0.heap.size C.w0 w:=by
 obtain⟨S,P,l,hD,hr⟩:=h;exact DQ.b0 hD.k
theorem PZ.uu (h:PZ B C ab7 Y F ym pg T ab6 L tk q n w):∀k,ab7 k->k<w.heap.size:=by
 obtain⟨S,P,l,hD,hr⟩:=h;exact hD.uu
theorem Jo (h:PZ B C ab7 Y F ym pg T ab6 [] tk q n w)(hN:C.w0.heap.size<=C.N0)(he:dM C.w0 e)(Hh:11<B)(hq:q<1000000)(kV:tk<1000000):
  Calls prog 15 #[.pointer (some ⟨Y,0,none⟩),.int .i64 0,.int .i64 0] w λev w'=>VF ab7 w w' /\
   ((T.length+ab6.length<pg*C.m/\∃o n',ev=.returned (.tuple #[bz o.1 o.2,.nilIface])/\o∉T/\PZ B C ab7 Y F ym pg (T++[o]) ab6 [] tk (q+1) n' w') \/
   (T.length+ab6.length=pg*C.m/\ev=.returned (.tuple #[bz 0 0,bc (e 7)])/\PZ B C ab7 Y F ym pg T ab6 [tk+1] (tk+1) q 0 w')):=by
 obtain⟨S,P,l,hD,hF,rfl,rfl,hL,rfl,ZC,rfl⟩:=h;have Cr:C.mn<=0:=by rw[hF.mn];omega
 have hx:(0:Int)<=0/\(0:Int)<S.ws.length:=by have:=hF.ws;omega
 have hy:(0:Int)<=0/\(0:Int)<C.k:=by have:=hF.fs.k1;omega
 have hle:=hF.fs.le;have hlen:=hF.len;have oH:∀(o:Bl) (S':Ds) (U:Nat->Prop) (X:Nat->Option Obj) (W:World),mV C S 0 0 false none o S'->DK C U X S' W->o∉P.T/\W2 o.1 o.2:=λo S' U X W hT um=>by
  rcases hF.fs.take hD.k (δ Cr) hx hT with⟨_,_,h3,h4⟩|⟨_,O,_⟩
  ·exact⟨λhm=>h3 (hF.sub o (by simp[hm])),h4.w2 um (by simp)⟩
  ·cases O
 have hsp:∀o∈P.R,o∉P.T/\W2 o.1 o.2:=λo ho=>⟨λhm=>(aF.1 hF.V).2.2 o ho o (by simp[hm]) rfl,hF.fs.w2 hD.k (hF.sub o (by simp[ho]))⟩;refine(yu hD hN he Hh hL hx hy (by omega) kV oH hsp).mono ?_;rintro ev w'⟨r,o,S',hT,G⟩;have hft:=hF.fs.take hD.k (δ Cr) hx hT;have dR:S'.ws.length=1:=(Jn hT).trans hF.ws;rcases G with⟨rfl,rfl,um,SB⟩|⟨hr,R,o2,rR,hR,rfl,um,SB⟩|⟨hr,hR,ic,rfl,um,SB⟩
 ·refine⟨SB.vf,ε ?_⟩;rcases hft with⟨O,_,h3,h4⟩|⟨_,O,_⟩
  ·have KX:o∉P.R++(P.T++P.ab6.map (·.2)):=λhm=>h3 (hF.sub o hm);refine⟨by omega,o,P.R.length,rfl,λhm=>KX (by simp[hm]),S',_,l++[o],um,⟨h4,λp hp=>?_,?_,?_,hF.mn,dR⟩,rfl,rfl,hL,rfl,by simp only;omega,rfl⟩
   ·simp only[aC,aw]at hp ⊢;rcases hp with hp|((hp|hp)|hp)
    ·exact ε (hF.sub p (by simp[hp]))
    ·exact ε (hF.sub p (by simp[hp]))
    ·exact δ hp
    ·exact ε (hF.sub p (aC.2 (δ (aC.2 (δ hp)))))
   ·have hp:(P.R++((P.T++[o])++P.ab6.map (·.2))).Perm ((P.R++(P.T++P.ab6.map (·.2)))++[o]):=by
     simp only[aJ];exact dB _ (dB _ dU)
    refine hp.nodup_iff.2 (aF.2 ⟨hF.V,by simp,λa ha b J e=>?_⟩);simp only[aw]at J;exact KX (by rw[<- J,<- e];exact ha)
   ·simp only[φ,ag];omega
  ·cases O
 ·refine⟨SB.vf,ε ?_⟩;rcases hft with⟨_,O,_⟩|⟨O,_,h4⟩
  ·exact absurd O hr
  ·have hnd:=hF.V;have sX:=hF.sub;rw[hR]at hnd sX hlen;simp only[φ,ag]at hlen;have hp:(R++((P.T++[o2])++P.ab6.map (·.2))).Perm ((R++[o2])++(P.T++P.ab6.map (·.2))):=by
    simp only[aJ];refine dB _ ?_;rw[<- aJ,<- aJ];exact List.Perm.append_right _ dU
   refine⟨by omega,o2,R.length,rfl,λhm=>?_,S',_,l,um,⟨h4,λp sx=>sX p (hp.mem_iff.1 sx),hp.nodup_iff.2 hnd,?_,hF.mn,dR⟩,rfl,rfl,hL,rfl,by simp only;omega,rfl⟩
   ·exact(aF.1 hnd).2.2 o2 (by simp) o2 (by simp[hm]) rfl
   ·simp only[φ,ag];omega
 ·refine⟨SB.vf,δ ?_⟩;rcases hft with⟨_,O,_⟩|⟨O,_,h4⟩
  ·exact absurd O hr
  ·rw[hR]at hlen;simp only[aA]at hlen;refine⟨by omega,rfl,S',_,l,um,⟨h4,hF.sub,hF.V,hF.len,hF.mn,dR⟩,rfl,rfl,by simp[hL],rfl,ZC,by simp[hR]⟩
theorem SC (h:PZ B C ab7 Y F ym pg T [] (tk::L) n q x.toNat w)(he:dM C.w0 e)(ht:tk<1000000)(hq:q<1000000)(ho:o∈T):
  Calls prog 19 #[.pointer (some ⟨Y,0,none⟩),.int .i64 0,.agg #[.int .i64 o.1,.int .i64 o.2]] w λev w'=>VF ab7 w w'/\ev=.returned .nilIface/\PZ B C ab7 Y F ym pg (T.erase o) [(tk,o)] L n (q+1) x.toNat w':=by
 obtain⟨S,P,l,hD,hF,rfl,hY,hL,rfl,ZC,hn⟩:=h;have hx:(0:Int)<=0/\(0:Int)<S.ws.length:=by have:=hF.ws;omega
 have hol:o∈l:=hF.sub o (by simp[ho]);refine(Fp hD he hL (by simp[Lit.wf,IntKind.min,IntKind.max,IntKind.signed,IntKind.bits];omega) (by rw[hY];simp) (by unfold maxLen;omega) hx ho (hF.fs.out hol)).mono ?_;rintro ev w'⟨rfl,ic,um,SB⟩;have hp:(P.R++(P.T.erase o++[o])).Perm (P.R++(P.T++P.ab6.map (·.2))):=by
  rw[hY];simp only[List.map_nil,dF];exact dB _ (dU.trans (List.perm_cons_erase ho).symm)
 have hlen:=hF.len;rw[hY]at hlen;have hel:=List.length_erase_of_mem ho;have jw:0<P.T.length:=List.length_pos_of_mem ho;simp only[aA]at hlen;refine⟨SB.vf,rfl,S,_,l,um,⟨hF.fs,λp sx=>hF.sub p (hp.mem_iff.1 (by simpa[hY]using sx)),?_,?_,hF.mn,hF.ws⟩,rfl,by simp[hY],rfl,rfl,by simp only;omega,hn⟩
 ·have:=hp.nodup_iff.2 hF.V;simpa[hY]using this
 ·simp only[hY,aT,ag];omega
theorem uv (h:PZ B C ab7 Y F ym pg T ab6 L tk q n w)(hl:L.length<=1000):Calls prog 17 #[.pointer (some ⟨Y,0,none⟩)] w λev w'=>∃v',ev=.returned v'/\w'.ownsRow w.heap.size 3 1 v' L.length (dX L)/\Below w.heap.size w w':=by
 obtain⟨S,P,l,hD,hF,rfl,rfl,rfl,rfl,ZC,rfl⟩:=h;exact rP hD.m hl
theorem uw (h:PZ B C ab7 Y F ym pg T ab6 L tk q n w):Calls prog 18 #[.pointer (some ⟨Y,0,none⟩)] w λev w'=>ev=.returned (.int .i64 n)/\w'=w:=by
 obtain⟨S,P,l,hD,hF,rfl,rfl,rfl,rfl,ZC,rfl⟩:=h;exact rO hD.m
theorem WO (h:DK C ab7 (λ_=>none) S w)(hN:C.w0.heap.size<=C.N0)(he:dM C.w0 e)(Sy:C.w0.heap.size<=B)(hB:B<=w.heap.size)(hfs:FS pg C S [])(Cr:C.mn=0)(dR:S.ws.length=1)(hn:1<=n/\n<=16)(Zi:n<=pg*C.m):
  Calls prog 14 #[.pointer (some ⟨C.d,0,none⟩),.int .i64 0,.int .i64 n] w λev w'=>VF ab7 w w'/\ev=.returned (.tuple #[.pointer (some ⟨w.heap.size+1+1,0,none⟩),.nilIface])/\PZ B C ab7 (w.heap.size+1+1) w.heap.size (w.heap.size+1) pg [] [] [] 0 0 n w':=by
 refine(Sz (ab7:=ab7) h hN he Sy hB hn 0 (λS R=>FS pg C S R/\S.ws.length=1) ⟨hfs,dR⟩ (λS R r o S' U X w hl yx hD hT=>?_)).mono ?_
 ·rcases yx.1.take hD (ε rfl) (by have:=yx.2;omega) hT with⟨_,O,_,h4⟩|⟨O,_⟩
  ·exact⟨O,h4,(Jn hT).trans yx.2⟩
  ·omega
 ·rintro ev w'⟨rfl,S',R,vr,hl,⟨G,O⟩,hD,hP⟩;refine⟨hP.vf,rfl,S',_,R,hD,⟨G,λp hp=>by simpa[pG]using hp,by simpa[pG]using G.V,by simp[pG],Cr,O⟩,rfl,rfl,rfl,rfl,ζ _,hl⟩
end
section
variable {B:Nat}{C:Dc}{ab7 V':Nat->Prop}{X:Nat->Option Obj}{Y F ym pg tk q n:Nat}{S S':Ds}{P P':Ps}{w w':World}{T:List Bl}{ab6:List (Nat×Bl)}{L:List Nat}
theorem PD.others (h:PD B C ab7 X Y F ym S P w)(D:Kp ab7 w w')(hV:∀j,V' j->Tag w' j 34/\(ab7 j\/w.heap.size<=j)):PD B C V' X Y F ym S P w':=by
 have wN:∀b,PB Y F ym P b->¬ab7 b:=λb J hv=>by
  have ht:=h.iH b hv;rcases J with rfl|rfl|rfl|J|J
  ·exact ht.ne h.m.tg (by decide) rfl
  ·obtain⟨o,e1,e2⟩:=h.m.t.aQ;exact aj e1 e2 ht rfl
  ·obtain⟨o,e1,e2⟩:=h.m.y.aQ;exact aj e1 e2 ht rfl
  ·exact h.dj b J hv
  ·exact ht.ne (ay h.m.l J).1 (by decide) rfl
 have hs:∀b,PB Y F ym P b->w'.heap[b]?=w.heap[b]?:=λb J=>D.blk b (h.m.lt J).1 (wN b J);have e:=kG (X:=X) (hs F (δ (ε rfl))) (hs ym (δ (δ (ε rfl))));have hK:DK C (λj=>V' j\/OB P.vr j) (X2 F ym X w) S w':=by
  refine h.k.iV D ?_ (λb J=>DQ.ul h.k b (ε J)) (λb J=>ε (ε J)) (λb o e=>?_) (λj E=>?_)
  ·intro g c i h' d e1 e2 hi hv;obtain⟨g2,c2,rows,e3,o2,r2⟩:=h.k.dz.cf;rw[e3]at e1;simp only[τ,ψ,av,bI,aZ]at e1;obtain⟨rfl,rfl⟩:=e1;obtain⟨O,d2,e4,o3⟩:=r2 i hi;rw[(o2.cellAt i (by omega)).trans e4]at e2;simp only[τ,ψ,av,bI,aZ]at e2;obtain⟨rfl,rfl⟩:=e2;exact(fV o3).ne (h.iH _ hv) (by decide) rfl
  ·obtain⟨e1,e2⟩:=h.k.map e;exact⟨(D.blk b (Array.getElem?_eq_some_iff.mp e1).1 (λhv=>aj e1 e2 (h.iH b hv) rfl)).trans e1,e2,ε ⟨o,e⟩⟩
  ·rcases E with E|E
   ·exact⟨(hV j E).1,(hV j E).2.imp ε id⟩
   ·exact⟨(ay h.m.r E).1.blk (hs j (δ (δ (δ (ε E))))),ε (δ E)⟩
 refine⟨by rw[e];exact hK,h.m.keep hs,h.nr.keep h.k.dz (λc t hm K=>D.blk c K.lt (λhv=>K.ne (h.iH c hv) (λe=>by subst e;simp at hm) rfl)) (λj E=>ε E),λj E hv=>?_,h.xt,h.hB⟩;rcases(hV j hv).2 with hv'|hv'
 ·exact h.dj j E hv'
 ·have:=(ay h.m.r E).1.lt;omega
end
section
variable {B:Nat}{C:Dc}{ab7 V':Nat->Prop}{X:Nat->Option Obj}{Y F ym d:Nat}{S S':Ds}{P P':Ps}{w w':World}{e:Nat->Addr}
theorem FH (h:jo B w Y d F ym P)(e9:Addr)(he:w.cell? ⟨5,0,none⟩=some (bc e9))(hl:8<=P.L.length):Calls prog 74 #[.pointer (some ⟨Y,0,none⟩)] w λev w'=>ev=.returned (bc e9)/\w'=w:=by
 obtain⟨p,c,hv⟩:=aX h.l;have c5:=h.c5;rw[hv]at c5;have d1:decide ((P.L.length:Int)>=8)=true:=by simp;omega
 have d2:decide ((8:Int)<=(P.L.length:Int))=true:=by simp;omega
 unfold bc at*;generalize P.L.length=n at*;clear h hv;go_enter func74,ntmps74;go_wp2;go_ret;exact⟨rfl,rfl⟩
theorem FI (h:PD B C ab7 X Y F ym S P w)(he:dM C.w0 e){x:Int}(hx:¬(0<=x/\x<S.ws.length))(y:Int):
  Calls prog 15 #[.pointer (some ⟨Y,0,none⟩),.int .i64 x,.int .i64 y] w λev w'=>ev=.returned (.tuple #[bz 0 0,bc (e 1)])/\PD B C ab7 X Y F ym S P w'/\PF ab7 P P w w':=by
 have F1:=χ (γ w.heap.size w) (cB 0 0);have R1:=cQ w;have H1:=h.more F1 (ζ _) R1.tg;have cZ:=I (h.fb F1);have kH:=I (H1.check he x);rw[ai hx]at kH;have HV:=I h.uu;have fk:=I R1;have dD:=I H1;clear h F1 R1 H1 he hx;unfold bz bc at*;go_enter func15,ntmps15;go_upto_region 1 with(fail);generalize w.alloc (cB 0 0)=W at*;go_wp2_with fail;refine(Z kH).mono ?_;rintro ev w1⟨rfl,rfl⟩;clear kH;obtain⟨r0,r1,bQ,rt⟩:=Z fk;have f0:=bQ 0;have f1:=bQ 1;obtain⟨t0,t1⟩:=aW r0 r1 (.int .i64 0) (.int .i64 0);clear bQ;go_wp2;refine Θ (v:=.tuple #[.agg #[.int .i64 0,.int .i64 0],.iface 424 (.pointer (some (e 1)))]) (by simp[results,results15,go_sem,t0,t1];try rfl) rfl ?_;exact⟨rfl,(((Z dD).h_ (δ rfl) 0 _).h_ (δ rfl) 1 _).less λj E=>ε E,((Z cZ).box (Z HV) (ζ _) 0 _).box (Z HV) (ζ _) 1 _⟩
end
section
variable {B:Nat}{C:Dc}{ab7 V':Nat->Prop}{X:Nat->Option Obj}{Y F ym:Nat}{S S':Ds}{P P':Ps}{w w':World}{e:Nat->Addr}
theorem FJ (h:PD B C ab7 X Y F ym S P w)(he:dM C.w0 e){x y:Int}(hx:0<=x/\x<S.ws.length)(hy:¬(0<=y/\y<C.k)):
  Calls prog 15 #[.pointer (some ⟨Y,0,none⟩),.int .i64 x,.int .i64 y] w λev w'=>ev=.returned (.tuple #[bz 0 0,bc (e 1)])/\PD B C ab7 X Y F ym S P w'/\PF ab7 P P w w':=by
 have F1:=χ (γ w.heap.size w) (cB 0 0);have R1:=cQ w;have H1:=h.more F1 (ζ _) R1.tg;have cZ:=I (h.fb F1);have kH:=I (H1.check he x);rw[af hx]at kH;have Jl:=I (jB (DQ.db H1.k).d0);have zA:=I (H1.has he y);rw[dE hy]at zA;have rS:=h.uu;have fk:=I R1;have dD:=I H1;have c0:=H1.m.c0;have HV:=I rS;have HE:=I he;clear h F1 R1 H1 rS he;unfold bz bc at*;go_enter func15,ntmps15;go_upto_region 1 with(fail);generalize w.alloc (cB 0 0)=W at*;go_wp2_with fail;refine(Z kH).mono ?_;rintro ev w1⟨rfl,rfl⟩;clear kH;go_wp2_with fail;refine(Z Jl).mono ?_;rintro ev w2⟨rfl,rfl⟩;clear Jl;go_wp2_with fail;refine(Z zA).mono ?_;rintro ev w3⟨rfl,b3⟩;have H3:=(Z dD).b b3;have fY:=I ((Z cZ).trans (((Z dD).fb b3).mono λj E=>ε E));have iq:=I ((Z fk).b b3);have v1:=((Z HE).below (DQ.b0 H3.k)).v1;have qT:(1:Nat)≠w.heap.size:=by
  have h3:=(Z HE).v1;have hs:=(DQ.b0 (Z dD).k).size;have hs2:=(Z fk).tg.lt;have hC:=H3.hB;have hg:=H3.m.ge;have hU:C.w0.heap.size<=w.heap.size:=DQ.ul H3.k w.heap.size (ε (δ rfl));unfold World.cell? at h3;cases J:C.w0.heap[1]? with
  |none=>simp only[J]at h3;cases h3
  |some o=>have:=(Array.getElem?_eq_some_iff.mp J).1;omega
 have eD:=I H3;unfold bc at v1;clear zA dD cZ fk c0 b3 H3;obtain⟨r0,r1,bQ,rt⟩:=Z iq;have f0:=bQ 0;have f1:=bQ 1;obtain⟨t0,t1⟩:=aW r0 r1 (.int .i64 0) (.int .i64 0);clear bQ;go_wp2_with fail;go_region
 have aa6:Hid (PD B C ab7 X Y F ym S P ((w3.setCell ⟨w.heap.size,0,none⟩ (.int .i64 0)).setCell ⟨w.heap.size,1,none⟩ (.int .i64 0)).drew):=((((Z eD).h_ (δ rfl) 0 _).h_ (δ rfl) 1 _).b (dw _)).less λj E=>ε E;have wq:Hid (PF ab7 P P w ((w3.setCell ⟨w.heap.size,0,none⟩ (.int .i64 0)).setCell ⟨w.heap.size,1,none⟩ (.int .i64 0)).drew):=(((Z fY).box (Z HV) (ζ _) 0 _).box (Z HV) (ζ _) 1 _).trans ((((((Z eD).h_ (δ rfl) 0 _).h_ (δ rfl) 1 _).fb (dw _))).mono λj E=>ε E);have XM:((w3.setCell ⟨w.heap.size,0,none⟩ (.int .i64 0)).setCell ⟨w.heap.size,1,none⟩ (.int .i64 0)).drew.cell? ⟨w.heap.size,0,none⟩=some (.int .i64 0):=t0;have XN:((w3.setCell ⟨w.heap.size,0,none⟩ (.int .i64 0)).setCell ⟨w.heap.size,1,none⟩ (.int .i64 0)).drew.cell? ⟨w.heap.size,1,none⟩=some (.int .i64 0):=t1;clear t0 t1 r0 r1 f0 f1 v1 eD fY iq;generalize((w3.setCell ⟨w.heap.size,0,none⟩ (.int .i64 0)).setCell ⟨w.heap.size,1,none⟩ (.int .i64 0)).drew=w5 at*;go_wp2;refine Θ (v:=.tuple #[.agg #[.int .i64 0,.int .i64 0],.iface 424 (.pointer (some (e 1)))]) (by simp[results,results15,go_sem,XM,XN];try rfl) rfl ?_;exact⟨rfl,Z aa6,Z wq⟩
theorem FK (h:PD B C ab7 X Y F ym S P w)(he:dM C.w0 e)(kI:8<=P.L.length){x y:Int}(hx:0<=x/\x<S.ws.length)(hy:0<=y/\y<C.k):
  Calls prog 15 #[.pointer (some ⟨Y,0,none⟩),.int .i64 x,.int .i64 y] w λev w'=>ev=.returned (.tuple #[bz 0 0,bc (e 9)])/\PD B C ab7 X Y F ym S P w'/\PF ab7 P P w w':=by
 have F1:=χ (γ w.heap.size w) (cB 0 0);have R1:=cQ w;have H1:=h.more F1 (ζ _) R1.tg;have cZ:=I (h.fb F1);have kH:=I (H1.check he x);rw[af hx]at kH;have Jl:=I (jB (DQ.db H1.k).d0);have zA:=I (H1.has he y);rw[aM hy]at zA;have fk:=I R1;have dD:=I H1;have c0:=H1.m.c0;have c5:=H1.m.c5;obtain⟨pl,cl,hv⟩:=aX H1.m.l;rw[hv]at c5;have d1:decide ((P.L.length:Int)>0)=true:=by simp;omega
 have d2:decide ((0:Int)<(P.L.length:Int))=true:=by simp;omega
 have d3:decide (0<P.L.length)=true:=by simp;omega
 have mW:Hid (∀W,PD B C (λj=>ab7 j\/j=w.heap.size) X Y F ym S P W->Calls prog 74 #[.pointer (some ⟨Y,0,none⟩)] W λev w'=>ev=.returned (bc (e 9))/\w'=W):=λW hW=>FH hW.m (e 9) (he.below (DQ.b0 hW.k)).v9 kI;have HV:=I h.uu;clear h F1 R1 H1 he hv;unfold bz bc at*;generalize hn:P.L.length=n at*;go_enter func15,ntmps15;go_upto_region 1 with(fail);generalize w.alloc (cB 0 0)=W at*;go_wp2_with fail;refine(Z kH).mono ?_;rintro ev w1⟨rfl,rfl⟩;clear kH;go_wp2_with fail;refine(Z Jl).mono ?_;rintro ev w2⟨rfl,rfl⟩;clear Jl;go_wp2_with fail;refine(Z zA).mono ?_;rintro ev w3⟨rfl,b3⟩;have H3:=(Z dD).b b3;have fY:=I ((Z cZ).trans (((Z dD).fb b3).mono λj E=>ε E));have iq:=I ((Z fk).b b3);have d5:=(b3.cell (p:=⟨Y,5,none⟩) (Z dD).m.tg.lt).trans c5;have WI:=I ((Z mW) w3 H3);have eD:=I H3;clear zA dD cZ fk c5 c0 b3 H3 mW;go_wp2_with fail;refine(Z WI).mono ?_;rintro ev w4⟨rfl,rfl⟩;obtain⟨r0,r1,bQ,rt⟩:=Z iq;have f0:=bQ 0;have f1:=bQ 1;obtain⟨t0,t1⟩:=aW r0 r1 (.int .i64 0) (.int .i64 0);clear bQ WI d5;go_wp2;refine Θ (v:=.tuple #[.agg #[.int .i64 0,.int .i64 0],.iface 424 (.pointer (some (e 9)))]) (by simp[results,results15,go_sem,t0,t1];try rfl) rfl ?_;exact⟨rfl,(((Z eD).h_ (δ rfl) 0 _).h_ (δ rfl) 1 _).less λj E=>ε E,((Z fY).box (Z HV) (ζ _) 0 _).box (Z HV) (ζ _) 1 _⟩
end
section
variable {B:Nat}{C:Dc}{ab7 V':Nat->Prop}{X:Nat->Option Obj}{Y F ym:Nat}{S S':Ds}{P P':Ps}{w w':World}{e:Nat->Addr}
theorem gm {a c:World}(h:a.grownBy c none):Below a.heap.size a c:=⟨h.os,h.tape,h.output,h.size,λi hi=>h.block i hi (by simp)⟩
theorem yS {a c:World}(h:Below a.heap.size a c):a.grownBy c none:=⟨h.os,h.tape,h.output,h.size,λi hi _=>h.block i hi⟩
theorem yT (h:PD B C ab7 X Y F ym S P w)(b:Bool)(J:b=true↔∃o∈P.T,di C S o):Calls prog 97 #[.pointer (some ⟨Y,0,none⟩)] w λev w'=>ev=.returned (.bool b)/\Below w.heap.size w w':=by
 obtain⟨ab8,hown,XS,hsz⟩:=h.m.t.own;have c3:=h.m.c3;have HH:=I h;have HB:=I J;have XT:=I XS;have ZR:=I h.m.t.wf;have GA:=h.m.t.lt;clear h J XS hsz;go_enter func97,ntmps97;go_wp2_with (first
  |(at_range;refine wpList_range_own _ rfl _ 141 rfl 34 151 gS underlying141 _ F P.q _ rfl hown ?_;intro w0 hrg0 hg0 hs0)
  |go_in)
 have XU:=I hrg0;have HG0:=I (gm hg0);clear hrg0 hg0 hs0 hown;go_wp2_with fail;go_frame;go_loopw [3] (λ_ wr=>∃(left:Lit->Bool) (cnt:Nat),Hid (wr.ranges prog 34 unitElem F w.heap.size P.q ab8 left cnt)/\Hid (Below w.heap.size w wr)/\Hid (∀a b,W2 a b->left (oX a b)=true->(a,b)∈P.T)/\Hid (∀o∈P.T,left (oX o.1 o.2)=false->¬di C S o)) (λ_ wr=>wr.rangeLeft F w.heap.size)
 case atStart =>
  refine⟨_,_,XU,HG0,λa b hw hl=>?_,λo ho hl=>?_⟩
  ·rw[(Z XT) a b hw]at hl;simpa using hl
  ·rw[(Z XT) o.1 o.2 ((Z ZR) o ho)]at hl;exact absurd ho (by simpa using hl)
 case round =>
  clear XU HG0;obtain⟨left,cnt,OM,HG,NY,Qi⟩:=hrel;go_wp2_with (first
   |(at_next;refine wpList_next_ranges _ rfl _ rfl 34 gS unitElem (λp:Int×Int=>.agg #[.int .i64 p.1,.int .i64 p.2]) (λ_:Unit=>.agg #[]) (λkey kl D=>by obtain⟨a,b,rfl,_⟩:=uD D;exact⟨(a,b),rfl⟩) (λv y hv=>by obtain⟨rfl,_⟩:=unitElem_inv hv;exact⟨(),rfl⟩) F w.heap.size P.q ab8 left cnt rfl (Z OM) ?_ ?_)
   |go_in)
  ·intro _ hl0;have hno:¬∃o∈P.T,di C S o:=λ⟨o,ho,hi⟩=>(Z Qi) o ho (hl0 _) hi;obtain rfl:b=false:=by
    cases b with
    |false=>rfl
    |true=>exact absurd ((Z HB).1 rfl) hno
   have HG':=I (Z HG);clear HG OM NY Qi HB HH;go_wp2;go_ret;exact⟨rfl,Z HG'⟩
  ·intro xN xA kl yd yp w1 cnt1 hkey hlx hv hat hrg1 hlt hg1 hs1 hen;obtain⟨a',b',he,hw2,rfl⟩:=uD hkey;simp only[Value.agg.injEq,Array.mk.injEq,List.cons.injEq,Value.int.injEq,aZ,bI]at he;obtain⟨rfl,rfl⟩:=he;have hxT:=(Z NY) xN xA hw2 hlx;have hB1:Below w.heap.size w w1:=⟨hg1.os.trans (Z HG).os,hg1.tape.trans (Z HG).tape,hg1.output.trans (Z HG).output,σ (Z HG).size hg1.size,λi hi=>(hg1.block i (ι hi (Z HG).size) (by simp;omega)).trans ((Z HG).block i hi)⟩;have QB:=χ (γ w1.heap.size w1) (cB xN xA);have mS:=bW hB1 QB;have q':=θ w1 #[.int .i64 xN,.int .i64 xA] 34;have q0:=q' 0;have q1:=q' 1;simp only[Δ,υ,ω]at q0 q1;have kg:=I mS;have Th:=I (hrg1.alloc (cB xN xA));obtain⟨bx,jk⟩:∃bx:Bool,bx=true↔di C S (xN,xA):=by
    by_cases hi:di C S (xN,xA)
    ·exact⟨true,λ_=>hi,λ_=>rfl⟩
    ·exact⟨false,λh=>(by cases h),λh=>absurd h hi⟩
   have gM:=I (qK ((Z HH).b mS) hxT bx jk);have mJ:=I jk;have HXT:=I hxT;have I8:=I hw2;have Xp:=I hlt;clear hkey hv hat hg1 hs1 QB mS q' jk hxT hw2 hlt;have XV:=hen;go_wp2_with fail;refine(Z gM).mono ?_;rintro ev w2⟨rfl,b2⟩;have tu:=I (bW (Z kg) b2);have zv:w2.ranges prog 34 unitElem F w.heap.size P.q ab8 (λz=>left z && !z.sameKey (oX xN xA)) cnt1:=(Z Th).kept (yS b2) (by simp) (by simp);cases bx with
   |true =>
    obtain rfl:b=true:=(Z HB).2 ⟨(xN,xA),Z HXT,(Z mJ).1 rfl⟩;clear zv b2 Th gM kg OM HG NY Qi XV hen;go_wp2;go_ret;exact⟨rfl,Z tu⟩
   |false =>
    have HRL:=I zv;have hms:w2.rangeLeft F w.heap.size<wr.rangeLeft F w.heap.size:=by
     rw[zv.left_eq,(Z OM).left_eq];exact Z Xp
    have aa9:Hid (∀a b,W2 a b->(left (oX a b) && !(oX a b).sameKey (oX xN xA))=true->(a,b)∈P.T):=λa b hw hl=>(Z NY) a b hw (by simp only[eG]at hl;exact hl.1);have aba:Hid (∀o∈P.T,(left (oX o.1 o.2) && !(oX o.1 o.2).sameKey (oX xN xA))=false->¬di C S o):=λo ho hl=>by
     rcases(Bool.and_eq_false_iff.1 hl)with G|G
     ·exact(Z Qi) o ho G
     ·have O:(oX o.1 o.2).sameKey (oX xN xA)=true:=by simpa using G
      have h3:oX o.1 o.2=oX xN xA:=by
       unfold oX Lit.sameKey at*;simp only[beq_iff_eq]at O;rw[O]
      obtain⟨h4,h5⟩:=nU ((Z ZR) o ho) (Z I8) h3;have h6:o=(xN,xA):=Prod.ext h4 h5;rw[h6];exact λhi=>by have:=(Z mJ).2 hi;cases this
    clear zv b2 Th gM kg OM HG NY Qi XV hen;go_wp2_with fail;go_roundw;case rel=>exact⟨_,cnt1,HRL,tu,aa9,aba⟩
    case measure=>exact hms
end
section
variable {B:Nat}{C:Dc}{ab7 V':Nat->Prop}{X:Nat->Option Obj}{Y F ym:Nat}{S S':Ds}{P P':Ps}{w w':World}{e:Nat->Addr}
theorem J6 (h:PD B C ab7 X Y F ym S P w)(hL:P.L=[])(hr:P.R.length<P.most)(hm:P.most<=16)(x:Int)(o:Bl):
  Calls prog 81 #[.pointer (some ⟨Y,0,none⟩),.int .i64 x,.agg #[.int .i64 o.1,.int .i64 o.2]] w λev w'=>ev=.returned .nilIface/\∃rR,PD B C ab7 X Y F ym S {P with R:=P.R++[o],vr:=rR} w'/\PF ab7 P {P with R:=P.R++[o],vr:=rR} w w':=by
 have F1:=χ (γ w.heap.size w) (cB o.1 o.2);have H1:=h.b F1;have cZ:=I (h.fb F1);have q':=θ w #[.int .i64 o.1,.int .i64 o.2] 34;have q0:=q' 0;have q1:=q' 1;simp only[Δ,υ,ω]at q0 q1;have hbl:w.heap.size<(w.alloc (cB o.1 o.2)).heap.size:=by simp
 obtain⟨pl,cl,yq⟩:=aX H1.m.l;obtain⟨pr,cr,lU⟩:=aX H1.m.r;have c5:=H1.m.c5;have c2:=H1.m.c2;have c1:=H1.m.c1;rw[yq,hL]at c5;rw[lU]at c2;have A8:=I lU;have d1:decide ((P.R.length:Int)<(P.most:Int))=true:=by simp;omega
 have d2:(P.R.length:Int)<(P.most:Int):=by omega
 have dD:=I H1;obtain⟨oN,oA⟩:=o;have abc:P.R.length<16:=by omega
 simp only[aA]at*;clear h F1 H1 q' yq lU hL hm hr;generalize hn:P.R.length=n at*;have HN:=I hn;clear hn;go_enter func81,ntmps81;go_upto_region 5 with(fail);generalize w.alloc (cB oN oA)=W at*;go_quiet (fail);have bq:Below W.heap.size W (W.drewN nq):=iB (γ _ _) nq;have H2:=(Z dD).b bq;have eA:=I ((Z cZ).trans ((Z dD).fb bq));have x0:=(bq.cell (p:=⟨w.heap.size,0,none⟩) hbl).trans q0;have x1:=(bq.cell (p:=⟨w.heap.size,1,none⟩) hbl).trans q1;have y2:=H2.m.c2;rw[Z A8]at y2;have f2:=H2.m.fz 2;have r3:=H2.m.r;rw[Z A8,Z HN]at r3;have T3:=H2.m.tg;have eD:=I H2;clear cZ dD H2 q0 q1 hbl c5 c2 c1 d1 d2;generalize W.drewN nq=W3 at*;have BA:Below W3.heap.size W3 (W3.alloc (cB oN oA)).drew:=(χ (γ _ _) _).drew;have iE:=aN r3 BA;have ir:=T3.b BA;have hNb:B<=(W3.alloc (cB oN oA)).drew.heap.size:=σ (σ (Z eD).m.ge (ck T3.lt)) BA.size;have j9:=(BA.cell (p:=⟨Y,2,none⟩) T3.lt).trans y2;have j_:=(BA.frozen (p:=⟨Y,2,none⟩) T3.lt).trans f2;go_wp2_with fail;go_region_law (refine lT rfl (.tmp 46) (.tmp 48) rfl B (.slice pr n cr) n (flat P.R) (by simp[Act.eval]) iE (by simp[Act.eval]) (by omega) hNb ?_;intro g4 c4 w4 o4 q4 hg4 kE;have e4:=q4.block Y ir.lt (d_ iE ir (by decide));have sQ:w4.cell? ⟨Y,2,none⟩=some (.slice pr n cr):=(η (a:=⟨Y,2,none⟩) e4).trans j9;have ue:w4.frozen? ⟨Y,2,none⟩=false:=(π (a:=⟨Y,2,none⟩) e4).trans j_);all_goals
  have ui:w4.ownsRow B 34 2 (.slice (some ⟨g4,0,none⟩) (n+1) c4) (P.R++[(oN,oA)]).length (flat (P.R++[(oN,oA)])):=by
   rw[φ,Z HN,bM];exact o4
  have hk4:Kp (λb=>OB P.vr b) (W3.alloc (cB oN oA)).drew w4:=⟨q4.os,q4.tape,q4.output,q4.size,λk D hn=>q4.block k D (λe=>hn (by rw[Z A8];exact e.symm))⟩;have hG:∀b,OB (.slice (some ⟨g4,0,none⟩) (n+1) c4) b->OB P.vr b\/W3.heap.size<=b:=λb J=>by
   obtain rfl:g4=b:=by simpa[OB,Value.ownBlock]using J
   rcases hg4 with h|h
   ·exact ε (by rw[Z A8];exact h)
   ·right;have G:=BA.size;omega
  obtain⟨H5,P5⟩:=(Z eD).push (o:=(oN,oA)) BA ui hk4 hG;have gW:=I H5;have iY:=I ((Z eA).trans P5);clear hG hk4 ui H5 P5 o4 q4 hg4 kE e4 sQ ue j9 j_ iE BA ir hNb;generalize w4.setCell ⟨Y,2,none⟩ (.slice (some ⟨g4,0,none⟩) (n+1) c4)=w5 at*;go_wp2;go_ret;exact⟨rfl,_,Z gW,Z iY⟩
end
section
variable {B:Nat}{C:Dc}{ab7 V':Nat->Prop}{X:Nat->Option Obj}{Y F ym:Nat}{S S':Ds}{P P':Ps}{w w':World}{e:Nat->Addr}
theorem FU (h:PD B C ab7 X Y F ym S P w)(hN:C.w0.heap.size<=C.N0)(he:dM C.w0 e)(hL:P.L=[])(hr:P.most<=P.R.length)(x:Int)(o:Bl)(hQ:S.ab5<=900000):
  Calls prog 81 #[.pointer (some ⟨Y,0,none⟩),.int .i64 x,.agg #[.int .i64 o.1,.int .i64 o.2]] w λev w'=>∃r S',ev=.returned (wO e r)/\yj C S x o r S'/\PD B C ab7 X Y F ym S' P w'/\PF ab7 P P w w':=by
 have F1:=χ (γ w.heap.size w) (cB o.1 o.2);have H1:=h.b F1;have cZ:=I (h.fb F1);have q':=θ w #[.int .i64 o.1,.int .i64 o.2] 34;have q0:=q' 0;have q1:=q' 1;simp only[Δ,υ,ω]at q0 q1;have hbl:w.heap.size<(w.alloc (cB o.1 o.2)).heap.size:=by simp
 obtain⟨pl,cl,yq⟩:=aX H1.m.l;obtain⟨pr,cr,lU⟩:=aX H1.m.r;have c5:=H1.m.c5;have c2:=H1.m.c2;have c1:=H1.m.c1;rw[yq,hL]at c5;rw[lU]at c2;have d1:decide ((P.R.length:Int)<(P.most:Int))=false:=by simp;omega
 have d2:¬(P.R.length:Int)<(P.most:Int):=by omega
 have dD:=I H1;obtain⟨oN,oA⟩:=o;simp only[aA]at*;have HE:=I he;clear h F1 H1 q' yq lU hL hr he;generalize hn:P.R.length=n at*;clear hn;go_enter func81,ntmps81;go_upto_region 5 with(fail);generalize w.alloc (cB oN oA)=W at*;go_quiet (fail);have bq:Below W.heap.size W (W.drewN nq):=iB (γ _ _) nq;have H2:=(Z dD).b bq;have eA:=I ((Z cZ).trans ((Z dD).fb bq));have x0:=(bq.cell (p:=⟨w.heap.size,0,none⟩) hbl).trans q0;have x1:=(bq.cell (p:=⟨w.heap.size,1,none⟩) hbl).trans q1;have y0:=H2.m.c0;have uC:=I ((H2.b (dw _)).k.give hN hQ (Z HE).Ro x (oN,oA));have eD:=I H2;clear cZ dD H2 q0 q1 hbl c5 c2 c1 d1 d2;generalize W.drewN nq=W3 at*;go_wp2_with fail;go_region_with ((go_at_call 148;refine(Z uC).mono ?_;rintro ev w5⟨r,S',rfl,hG,D5,U5⟩));all_goals
  obtain⟨H5,P5⟩:=((Z eD).b (dw _)).turn D5 U5;have gW:=I H5;have iY:=I (((Z eA).trans ((Z eD).fb (dw _))).trans P5);have HG:=I hG;clear H5 P5 D5 U5 hG eD eA uC x0 x1 y0;go_wp2;go_ret;exact⟨r,S',rfl,Z HG,Z gW,Z iY⟩
end
section
variable {B:Nat}{C:Dc}{ab7 V':Nat->Prop}{X:Nat->Option Obj}{Y F ym:Nat}{S S':Ds}{P P':Ps}{w w':World}{e:Nat->Addr}
theorem J7 (h:PD B C ab7 X Y F ym S P w){o:Bl}(hw:W2 o.1 o.2)(ho:o∉P.T):Calls prog 80 #[.pointer (some ⟨Y,0,none⟩),.agg #[.int .i64 o.1,.int .i64 o.2]] w λev w'=>ev=.returned (.bool false)/\Below w.heap.size w w':=by
 have F1:=χ (γ w.heap.size w) (cB o.1 o.2);have H1:=h.b F1;have q':=θ w #[.int .i64 o.1,.int .i64 o.2] 34;have q0:=q' 0;have q1:=q' 1;simp only[Δ,υ,ω]at q0 q1;have hlk:∀W,Below (w.alloc (cB o.1 o.2)).heap.size (w.alloc (cB o.1 o.2)) W->(Instr.lookup 141 (.map (some F)) (.agg #[.int .i64 o.1,.int .i64 o.2]) true).run prog W=.ok (.tuple #[.agg #[],.bool false]) W:=λW hW=>by
  have:=(H1.m.t.b hW).look hw;rw[show decide ((o.1,o.2)∈P.T)=false by simpa using ho]at this;exact this
 have c3:=H1.m.c3;have hs1:w.heap.size<(w.alloc (cB o.1 o.2)).heap.size:=by simp
 have hpl:=H1.m.tg.lt;have cZ:=I F1;obtain⟨oN,oA⟩:=o;simp only at*;clear h F1 H1 q' ho hw;go_enter func80,ntmps80;go_upto_region 1 with(fail);generalize w.alloc (cB oN oA)=W at*;have Sw:=hlk W.drew (dw W);have Sx:=hlk (W.alloc (.cells #[] 151)).drew (χ (γ _ _) _).drew;clear hlk;go_region
 all_goals (
  have mS:Below W.heap.size W (W.alloc (.cells #[] 151)).drew:=(χ (γ _ _) _).drew;have eA:=I (bW (Z cZ) mS);clear Sw Sx mS q0 q1 c3 cZ hs1 hpl;generalize(W.alloc (.cells #[] 151)).drew=W2 at*;go_wp2_with fail;go_quiet (fail);go_wp2;go_ret;exact⟨rfl,iB (Z eA) _⟩)
end
inductive r7 (C:Dc)(S:Ds)(P:Ps)(x:Int)(o:Bl):Option Nat->Ds->Ps->Prop
 |line (t:Nat) (L:List Nat) (ic:Value) (hL:P.L=t::L):r7 C S P x o none S {P with ab6:=P.ab6++[(t,o)],q:=P.q+1,L:=L,vl:=ic}
 |room (rR:Value) (hL:P.L=[]) (hr:P.R.length<P.most):r7 C S P x o none S {P with R:=P.R++[o],vr:=rR}
 |full (r:Option Nat) (S':Ds) (hL:P.L=[]) (hr:P.most<=P.R.length) (hg:yj C S x o r S'):r7 C S P x o r S' P
theorem r7.T {C:Dc}{S S':Ds}{P P':Ps}{x:Int}{o:Bl}{r:Option Nat}(h:r7 C S P x o r S' P'):P'.T=P.T:=by cases h<;>rfl
structure PI (S:Ds)(P:Ps):Prop where
 most:P.most<=16
 q:P.q<=900000
 ab5:S.ab5<=900000
 tk:P.tk<=900000
 ln:P.L.length<=8
 lt:∀t∈P.L,t<=P.tk/\t∉P.ab6.map (·.1)
 yt:∀t∈P.ab6.map (·.1),t<=P.tk
section
variable {B:Nat}{C:Dc}{ab7 V':Nat->Prop}{X:Nat->Option Obj}{Y F ym:Nat}{S S':Ds}{P P':Ps}{w w':World}{e:Nat->Addr}
theorem iO {t:Nat}(h:t<=900000):(Lit.int .i64 (t:Int)).wf=true:=by simp[Lit.wf,IntKind.min,IntKind.max,IntKind.signed,IntKind.bits];omega
theorem DM (h:PD B C ab7 X Y F ym S P w)(hN:C.w0.heap.size<=C.N0)(he:dM C.w0 e)(hI:PI S P)(x:Int)(o:Bl):
  Calls prog 81 #[.pointer (some ⟨Y,0,none⟩),.int .i64 x,.agg #[.int .i64 o.1,.int .i64 o.2]] w λev w'=>∃r S' P',ev=.returned (wO e r)/\r7 C S P x o r S' P'/\PD B C ab7 X Y F ym S' P' w'/\PF ab7 P P' w w':=by
 cases hL:P.L with
 |cons t L =>
  have G:=hI.lt t (by rw[hL];simp);refine(yw h hL (iO (σ G.1 hI.tk)) G.2 (by unfold maxLen;have:=hI.q;omega) x o).mono ?_;rintro ev w'⟨rfl,ic,hD,hP⟩;exact⟨none,S,_,rfl,.line t L ic hL,hD,hP⟩
 |nil =>
  by_cases hr:P.R.length<P.most
  ·refine(J6 h hL hr hI.most x o).mono ?_;rintro ev w'⟨rfl,rR,hD,hP⟩;exact⟨none,S,_,rfl,.room rR hL hr,hD,hP⟩
  ·refine(FU h hN he hL (by omega) x o hI.ab5).mono ?_;rintro ev w'⟨r,S',rfl,hG,hD,hP⟩;exact⟨r,S',P,rfl,.full r S' hL (by omega) hG,hD,hP⟩
inductive uH (C:Dc)(S:Ds)(P:Ps)(x:Int)(o:Bl):Option Nat->Ds->Ps->Prop
 |bound (hx:¬(0<=x/\x<S.ws.length)):uH C S P x o (some 1) S P
 |lV (hx:0<=x/\x<S.ws.length) (ho:¬(o∈P.T/\di C S o)):uH C S P x o (some 8) S P
 |no (n:Nat) (S':Ds) (P':Ps) (hx:0<=x/\x<S.ws.length) (ho:o∈P.T) (hi:di C S o) (hp:r7 C S P x o (some n) S' P'):uH C S P x o (some n) S' P'
 |yes (S':Ds) (P':Ps) (hx:0<=x/\x<S.ws.length) (ho:o∈P.T) (hi:di C S o) (hp:r7 C S P x o none S' P'):uH C S P x o none S' {P' with T:=P.T.erase o}
theorem BG (h:PD B C ab7 X Y F ym S P w)(he:dM C.w0 e){x:Int}(hx:¬(0<=x/\x<S.ws.length))(o:Bl):
  Calls prog 19 #[.pointer (some ⟨Y,0,none⟩),.int .i64 x,.agg #[.int .i64 o.1,.int .i64 o.2]] w λev w'=>ev=.returned (bc (e 1))/\Below w.heap.size w w':=by
 have F1:=χ (γ w.heap.size w) (cB o.1 o.2);have kH:=I ((h.b F1).check he x);rw[ai hx]at kH;have cZ:=I F1;obtain⟨oN,oA⟩:=o;unfold bc at*;simp only at*;clear h F1 he hx;go_enter func19,ntmps19;go_upto_region 1 with(fail);generalize w.alloc (cB oN oA)=W at*;go_wp2_with fail;refine(Z kH).mono ?_;rintro ev w1⟨rfl,rfl⟩;go_wp2;go_ret;exact⟨rfl,Z cZ⟩
theorem BI (h:PD B C ab7 X Y F ym S P w)(he:dM C.w0 e){x:Int}(hx:0<=x/\x<S.ws.length){o:Bl}(hw:W2 o.1 o.2)(ho:¬(o∈P.T/\di C S o)):
  Calls prog 19 #[.pointer (some ⟨Y,0,none⟩),.int .i64 x,.agg #[.int .i64 o.1,.int .i64 o.2]] w λev w'=>ev=.returned (bc (e 8))/\Below w.heap.size w w':=by
 have F1:=χ (γ w.heap.size w) (cB o.1 o.2);have q':=θ w #[.int .i64 o.1,.int .i64 o.2] 34;have q0:=q' 0;have q1:=q' 1;simp only[Δ,υ,ω]at q0 q1;have H1:=h.b F1;have kH:=I (H1.check he x);rw[af hx]at kH;have gM:Hid (Calls prog 80 #[.pointer (some ⟨Y,0,none⟩),.agg #[.int .i64 o.1,.int .i64 o.2]] (w.alloc (cB o.1 o.2)) λev w'=>ev=.returned (.bool false)/\Below (w.alloc (cB o.1 o.2)).heap.size (w.alloc (cB o.1 o.2)) w'):=by
  by_cases hm:o∈P.T
  ·exact qK H1 hm false ⟨λh=>(by cases h),λhi=>absurd ⟨hm,hi⟩ ho⟩
  ·exact J7 H1 hw hm
 have cZ:=I F1;have E1:=I ((he.below (DQ.b0 H1.k)));have Tj:=I (DQ.b0 H1.k);have HE:=I he;obtain⟨oN,oA⟩:=o;simp only at*;clear h F1 he hx ho H1 q' hw;go_enter func19,ntmps19;go_upto_region 1 with(fail);generalize w.alloc (cB oN oA)=W at*;go_wp2_with fail;refine(Z kH).mono ?_;rintro ev w1⟨rfl,rfl⟩;go_wp2_with fail;refine(Z gM).mono ?_;rintro ev w2⟨rfl,b2⟩;have v8:=((Z HE).below (bW (Z Tj) b2)).v8;have HB:=I (bW (Z cZ) b2);unfold bc at*;clear gM kH b2 E1;go_wp2;go_ret;exact⟨rfl,Z HB⟩
end
section
variable {B:Nat}{C:Dc}{ab7 V':Nat->Prop}{X:Nat->Option Obj}{Y F ym:Nat}{S S':Ds}{P P':Ps}{w w':World}{e:Nat->Addr}
theorem J8 (h:PD B C ab7 X Y F ym S P w)(hN:C.w0.heap.size<=C.N0)(he:dM C.w0 e)(hI:PI S P){x:Int}(hx:0<=x/\x<S.ws.length){o:Bl}(ho:o∈P.T)(hi:di C S o):
  Calls prog 19 #[.pointer (some ⟨Y,0,none⟩),.int .i64 x,.agg #[.int .i64 o.1,.int .i64 o.2]] w λev w'=>∃r S' P',ev=.returned (wO e r)/\uH C S P x o r S' P'/\PD B C ab7 X Y F ym S' P' w'/\PF ab7 P P' w w':=by
 have F1:=χ (γ w.heap.size w) (cB o.1 o.2);have T1:=bB w #[.int .i64 o.1,.int .i64 o.2] 34;have H1:=h.more F1 (ζ _) T1;have cZ:=I (h.fb F1);have q':=θ w #[.int .i64 o.1,.int .i64 o.2] 34;have q0:=q' 0;have q1:=q' 1;simp only[Δ,υ,ω]at q0 q1;have kH:=I (H1.check he x);rw[af hx]at kH;have gM:=I (qK H1 ho true ⟨λ_=>hi,λ_=>rfl⟩);have WK:=I ho;have KU:Hid (∀W,PD B C (λj=>ab7 j\/j=w.heap.size) X Y F ym S P W->Calls prog 81 #[.pointer (some ⟨Y,0,none⟩),.int .i64 x,.agg #[.int .i64 o.1,.int .i64 o.2]] W λev w'=>∃r S' P',ev=.returned (wO e r)/\r7 C S P x o r S' P'/\PD B C (λj=>ab7 j\/j=w.heap.size) X Y F ym S' P' w'/\PF (λj=>ab7 j\/j=w.heap.size) P P' W w'):=λW hW=>DM hW hN he hI x o;have HV:=I h.uu;have dD:=I H1;have hbl:w.heap.size<(w.alloc (cB o.1 o.2)).heap.size:=by simp
 have IV:=I T1;have HX:=I hx;have HI:=I hi;obtain⟨oN,oA⟩:=o;simp only at*;clear h he hx ho hi F1 T1 H1 q' hI;go_enter func19,ntmps19;go_upto_region 1 with(fail);generalize w.alloc (cB oN oA)=W at*;go_wp2_with fail;refine(Z kH).mono ?_;rintro ev w1⟨rfl,rfl⟩;clear kH;go_wp2_with fail;refine(Z gM).mono ?_;rintro ev w2⟨rfl,b2⟩;have H2:=(Z dD).b b2;have eA:=(Z cZ).trans (((Z dD).fb b2).mono λj E=>ε E);have x0:=(b2.cell (p:=⟨w.heap.size,0,none⟩) hbl).trans q0;have x1:=(b2.cell (p:=⟨w.heap.size,1,none⟩) hbl).trans q1;have zz:=I ((Z KU) w2 H2);have A9:=I eA;have ni:=I ((Z IV).b b2);clear gM dD cZ q0 q1 hbl KU b2 H2 eA IV;go_wp2_with fail;refine(Z zz).mono ?_;rintro ev w3⟨r,S',P',rfl,hA,H3,P3⟩;have hb3:=P3.v w.heap.size (δ rfl);have y0:=(η (a:=⟨w.heap.size,0,none⟩) hb3).trans x0;have y1:=(η (a:=⟨w.heap.size,1,none⟩) hb3).trans x1;have HA:=I hA;have abd:Hid ((oN,oA)∈P'.T):=by
  have:=Z WK;rw[<- hA.T]at this;exact this
 cases r with
 |some n =>
  have fY:=I ((Z A9).trans (P3.mono λj E=>ε E));have eD:=I (H3.less (V':=ab7) λj E=>ε E);unfold wO bc at*;clear hb3 H3 P3 zz A9 ni x0 x1 hA y0 y1;go_wp2;go_ret;exact⟨some n,S',P',rfl,.no n S' P' (Z HX) (Z WK) (Z HI) (Z HA),Z eD,Z fY⟩
 |none =>
  have T3:=(Z ni).blk hb3;obtain⟨w4,pV,H4,P4,K4⟩:=(H3.b (dw w3)).dropped (Z abd) 0;have hdel:∀ty,(Builtin.delete_ #[141,34] ty #[.map (some F),.agg #[.int .i64 oN,.int .i64 oA]]).run prog w3.drew=.ok (.tuple #[]) w4:=λ_=>pV;have c3:=H3.m.c3;have jI:=I (((Z A9).trans (P3.mono λj E=>ε E)).trans ((((H3.fb (dw w3))).mono λj E=>ε E).trans (P4.mono λj E=>ε E)));have Fo:=I (H4.less (V':=ab7) λj E=>ε E);have CH:=I hA.T;unfold wO at*;clear pV H4 P4 K4 H3 P3 hb3 zz A9 ni x0 x1 T3 hA;go_wp2_with fail;go_region
  go_wp2;go_ret;refine⟨none,S',_,rfl,.yes S' P' (Z HX) (Z WK) (Z HI) (Z HA),?_,?_⟩
  ·have:=Z Fo;rw[Z CH]at this;exact this
  ·have:=Z jI;rw[Z CH]at this;exact this
theorem J9 (h:PD B C ab7 X Y F ym S P w)(hN:C.w0.heap.size<=C.N0)(he:dM C.w0 e)(hI:PI S P)(x:Int){o:Bl}(hw:W2 o.1 o.2):
  Calls prog 19 #[.pointer (some ⟨Y,0,none⟩),.int .i64 x,.agg #[.int .i64 o.1,.int .i64 o.2]] w λev w'=>∃r S' P',ev=.returned (wO e r)/\uH C S P x o r S' P'/\PD B C ab7 X Y F ym S' P' w'/\PF ab7 P P' w w':=by
 by_cases hx:0<=x/\x<S.ws.length
 ·by_cases ho:o∈P.T/\di C S o
  ·exact J8 h hN he hI hx ho.1 ho.2
  ·refine(BI h he hx hw ho).mono ?_;rintro ev w'⟨rfl,J⟩;exact⟨some 8,S,P,rfl,.lV hx ho,h.b J,h.fb J⟩
 ·refine(BG h he hx o).mono ?_;rintro ev w'⟨rfl,J⟩;exact⟨some 1,S,P,rfl,.bound hx,h.b J,h.fb J⟩
end
section
variable {B:Nat}{C:Dc}{ab7 V':Nat->Prop}{X:Nat->Option Obj}{Y F ym d:Nat}{S S':Ds}{P P':Ps}{w w':World}{e:Nat->Addr}
def Wt (L:List Nat)(t:Int):Prop:=∃k∈L,(k:Int)=t
theorem Tk (L:List Nat)(t:Int):(L.map Int.ofNat).contains t=true↔Wt L t:=by
 rw[List.contains_iff_mem,eV];constructor
 ·rintro⟨k,G,O⟩;exact⟨k,G,O⟩
 ·rintro⟨k,G,O⟩;exact⟨k,G,O⟩
theorem J_ (h:jo B w Y d F ym P)(t:Int):Calls prog 83 #[P.vl,.int .i64 t] w λev w'=>ev=.returned (.bool ((P.L.map Int.ofNat).contains t))/\w'=w:=by
 rcases id h.l.2 with⟨e1,e2⟩|⟨g,cap,cur,e1,hg,hh,G,O,h3,h4⟩
 ·have:P.L=[]:=bf.1 e2;rw[e1,this];exact Sh.slices_Contains_int_empty none 0 t w
 ·obtain⟨f1,f2,f3,f4⟩:=iG h e1;rw[e1];refine(Sh.slices_Contains_int g 0 P.L.length cap (P.L.map Int.ofNat) t w (by simp) (by unfold maxLen at O;omega) f1).mono ?_;rintro ev w'⟨rfl,rfl⟩;rw[bG (by simp)];exact⟨rfl,rfl⟩
theorem r8 (h:PD B C ab7 X Y F ym S P w)(he:dM C.w0 e){t:Int}(ht:(Lit.int .i64 t).wf=true)(hy:fT P.ab6 t=none)(b:Bool)(J:b=true↔Wt P.L t):
  Calls prog 20 #[.pointer (some ⟨Y,0,none⟩),.int .i64 t] w λev w'=>ev=.returned (.tuple #[bz 0 0,.bool false,wO e (if b then none else some 3)])/\PD B C ab7 X Y F ym S P w'/\PF ab7 P P w w':=by
 have F1:=χ (γ w.heap.size w) (cB 0 0);have R1:=cQ w;have H1:=h.more F1 (ζ _) R1.tg;have cZ:=I (h.fb F1);have nD:=I (lX H1 ht);rw[hy,kf hy]at nD;have fk:=I R1;have HV:=I h.uu;have LP:(P.L.map Int.ofNat).contains t=b:=Bool.eq_iff_iff.2 ((Tk P.L t).trans J.symm);have HB:=I LP;have HE:=I he;have xU:(3:Nat)≠w.heap.size:=by
  have h3:=he.v3;have hs:=(DQ.b0 h.k).size;unfold World.cell? at h3;cases J:C.w0.heap[3]? with
  |none=>simp only[J]at h3;cases h3
  |some o=>have:=(Array.getElem?_eq_some_iff.mp J).1;omega
 simp only[Option.getD_none,Option.isSome_none]at nD;clear h F1 H1 hy R1 ht J he LP;unfold bz wO bc at*;go_enter func20,ntmps20;go_upto_region 1 with(fail);generalize w.alloc (cB 0 0)=W at*;go_wp2_with fail;refine(Z nD).mono ?_;rintro ev w2⟨rfl,H2,P2⟩;have R2:=(Z fk).blk (P2.v w.heap.size (δ rfl));have eA:=(Z cZ).trans (P2.mono λj E=>ε E);have F3:=χ (γ w2.heap.size w2) (cB 0 0);have H3:=H2.b F3;have fY:=I (eA.trans ((H2.fb F3).mono λj E=>ε E));have c5:=H3.m.c5;have Js:=I (J_ H3.m t);rw[Z HB]at Js;have R3:=R2.b F3;have v3:=((Z HE).below (DQ.b0 H3.k)).v3;have eD:Hid (PD B C (λj=>ab7 j\/j=w.heap.size) X Y F ym S P (w2.alloc (cB 0 0))):=H3;have Fx:Hid (PF ab7 P P w (w2.alloc (cB 0 0))):=fY;have iq:=I R3;clear H2 P2 R2 eA F3 H3 R3 nD fk cZ fY;go_upto_region 5 with(fail);generalize w2.alloc (cB 0 0)=W3 at*;generalize w2.heap.size=b9 at*;generalize P.vl=vl at c5 Js;go_wp2_with fail;refine(Z Js).mono ?_;rintro ev w4⟨rfl,rfl⟩;clear Js;obtain⟨r0,r1,bQ,rt⟩:=Z iq;cases b with
 |true =>
  have f0:=bQ 0;have f1:=bQ 1;obtain⟨t0,t1⟩:=aW r0 r1 (.int .i64 0) (.int .i64 0);clear bQ;go_wp2;refine Θ (v:=.tuple #[.agg #[.int .i64 0,.int .i64 0],.bool false,.nilIface]) (by simp[results,results20,go_sem,t0,t1];try rfl) rfl ?_;exact⟨rfl,(((Z eD).h_ (δ rfl) 0 _).h_ (δ rfl) 1 _).less λj E=>ε E,((Z Fx).box (Z HV) (ζ _) 0 _).box (Z HV) (ζ _) 1 _⟩
 |false =>
  have f0:=bQ 0;have f1:=bQ 1;obtain⟨t0,t1⟩:=aW r0 r1 (.int .i64 0) (.int .i64 0);clear bQ;go_wp2_with fail;go_region
  have zA:Hid (PD B C ab7 X Y F ym S P ((w4.setCell ⟨w.heap.size,0,none⟩ (.int .i64 0)).setCell ⟨w.heap.size,1,none⟩ (.int .i64 0)).drew):=((((Z eD).h_ (δ rfl) 0 _).h_ (δ rfl) 1 _).b (dw _)).less λj E=>ε E;have wq:Hid (PF ab7 P P w ((w4.setCell ⟨w.heap.size,0,none⟩ (.int .i64 0)).setCell ⟨w.heap.size,1,none⟩ (.int .i64 0)).drew):=(((Z Fx).box (Z HV) (ζ _) 0 _).box (Z HV) (ζ _) 1 _).trans ((((((Z eD).h_ (δ rfl) 0 _).h_ (δ rfl) 1 _).fb (dw _))).mono λj E=>ε E);have XM:((w4.setCell ⟨w.heap.size,0,none⟩ (.int .i64 0)).setCell ⟨w.heap.size,1,none⟩ (.int .i64 0)).drew.cell? ⟨w.heap.size,0,none⟩=some (.int .i64 0):=t0;have XN:((w4.setCell ⟨w.heap.size,0,none⟩ (.int .i64 0)).setCell ⟨w.heap.size,1,none⟩ (.int .i64 0)).drew.cell? ⟨w.heap.size,1,none⟩=some (.int .i64 0):=t1;clear t0 t1 r0 r1 f0 f1 v3 eD Fx iq c5;generalize((w4.setCell ⟨w.heap.size,0,none⟩ (.int .i64 0)).setCell ⟨w.heap.size,1,none⟩ (.int .i64 0)).drew=w5 at*;go_wp2;refine Θ (v:=.tuple #[.agg #[.int .i64 0,.int .i64 0],.bool false,.iface 424 (.pointer (some (e 3)))]) (by simp[results,results20,go_sem,XM,XN];try rfl) rfl ?_;exact⟨rfl,Z zA,Z wq⟩
end
end Pl
end Go.Proofs.YtcbmfakjfoggaaaGreatDoor
