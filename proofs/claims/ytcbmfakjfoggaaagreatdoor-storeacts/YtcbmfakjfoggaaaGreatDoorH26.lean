/- H26 -/
import Derived.Test.YtcbmfakjfoggaaaGreatDoorA0
import Derived.Test.YtcbmfakjfoggaaaGreatDoorH24
set_option maxHeartbeats 0
set_option maxRecDepth 100000
namespace Go.Proofs.YtcbmfakjfoggaaaGreatDoor
open _root_.Go.Proofs.Tryz Go.RowKit Go.Maps
namespace Pl
open Fr Bd Zn Dz Sb Mg
section
variable {B:Nat}{C:Dc}{ab7:Nat->Prop}{X:Nat->Option Obj}{Y F ym:Nat}{S:Ds}{P:Ps}{w w':World}{e:Nat->Addr}
theorem PD.has (h:PD B C ab7 X Y F ym S P w)(he:dM C.w0 e)(y:Int):Calls prog 73 #[.pointer (some ⟨C.c,0,none⟩),.int .i64 y] w λev w'=>ev=.returned (.bool (decide (0<=y/\y<C.k)))/\Below w.heap.size w w':=by
 obtain⟨ly,bs,q,f,rb,p1,p2,p3⟩:=DQ.ex h.k;exact vz C.c C.z C.mn C.lw C.hi C.k C.nb C.fm C.F S.V C.fr y w e (he.below (DQ.b0 h.k)).three p1.d p1.c.c0
theorem PD.check (h:PD B C ab7 X Y F ym S P w)(he:dM C.w0 e)(x:Int):Calls prog 71 #[.pointer (some ⟨Y,0,none⟩),.int .i64 x] w λev w'=>ev=.returned (if 0<=x/\x<S.ws.length then .nilIface else bc (e 1))/\w'=w:=by
 obtain⟨TZ,Zv,_⟩:=(DQ.db h.k).d1;exact lM (Y:=Y) (d:=C.d) h.m.c0 Zv (he.below (DQ.b0 h.k)).v1 x
end
theorem jJ {P:Program}(w:World){ops:Array Oper}{rest:List Oper}{o:Oper}{a:Act}{ab5:Exit->Act->World->Prop}(hg:o.guard=none)(m x:Operand)(t k:TypeId)(hop:o.op=Op.call {callee:=Callee.builtin Builtin.delete,args:=#[m,x],argTypes:=#[t,k]}){mv xv:Value}
  (hm:a.eval m=mv)(hx:a.eval x=xv){w':World}(hr:(Builtin.delete_ #[t,k] o.type #[mv,xv]).run P w=.ok (.tuple #[]) w')(hK:wpList P ops ab5 rest (a.put o.dst (.tuple #[])) w'):wpList P ops ab5 (o::rest) a w:=by
 refine wpList_plain hg λK' hK'=>?_;unfold Oper.wp;simp[execOp,hop,resolve,invoke,builtin,hm,hx,hr,Result.andThen];exact hK' _ _ hK
section
variable {B:Nat}{C:Dc}{ab7:Nat->Prop}{X:Nat->Option Obj}{Y F ym:Nat}{S:Ds}{P:Ps}{w w':World}{e:Nat->Addr}
theorem PD.fetched (h:PD B C ab7 X Y F ym S P w){t:Int}(ht:(Lit.int .i64 t).wf=true)(ty:TypeId):∃w',(Builtin.delete_ #[142,3] ty #[.map (some ym),.int .i64 t]).run prog w=.ok (.tuple #[]) w'/\PD B C ab7 X Y F ym S {P with ab6:=g_ P.ab6 t} w'/\PF ab7 P {P with ab6:=g_ P.ab6 t} w w'/\Kp (λb=>b=ym) w w':=by
 obtain⟨w',hr,hm,D⟩:=h.m.y.drop ht ty;have hK:Kp (λb=>b=ym) w w':=Kp.kept D rfl rfl;have Sp:=h.m.maps (w':=w') (λb J=>D.block b (by
  rcases J with rfl|J|J
  ·exact h.m.tg.lt
  ·exact(ay h.m.r J).1.lt
  ·exact(ay h.m.l J).1.lt) (h.m.yr J).2 (h.m.yr J).2) (h.m.t.blk (D.block F h.m.t.lt h.m.ne h.m.ne)) hm
 obtain⟨G,O⟩:=h.own Sp (hK.mono λk _ e=>δ (δ (ε e))) (λj E=>ε E) (λj E=>ε E);exact⟨w',hr,G,O,hK⟩
theorem lX (h:PD B C ab7 X Y F ym S P w){t:Int}(ht:(Lit.int .i64 t).wf=true):
  Calls prog 82 #[.pointer (some ⟨Y,0,none⟩),.int .i64 t] w λev w'=>ev=.returned (.tuple #[bz ((fT P.ab6 t).getD (0,0)).1 ((fT P.ab6 t).getD (0,0)).2,.bool (fT P.ab6 t).isSome])/\PD B C ab7 X Y F ym S {P with ab6:=g_ P.ab6 t} w'/\PF ab7 P {P with ab6:=g_ P.ab6 t} w w':=by
 have F1:=χ (γ w.heap.size w) (cB 0 0);have R1:=cQ w;have H1:=h.more F1 (ζ _) R1.tg;have cZ:=h.fb F1;have hlk:=H1.m.y.look ht;have c4:=H1.m.c4;have rS:=h.uu;obtain⟨oN,oA,ho⟩:∃oN oA,(fT P.ab6 t).getD (0,0)=(oN,oA):=⟨_,_,rfl⟩;rw[ho]at hlk ⊢;have HV:=I rS;generalize(fT P.ab6 t).isSome=bb at*;have F2:=χ (γ (w.alloc (cB 0 0)).heap.size (w.alloc (cB 0 0))) (cB oN oA);have q':=θ (w.alloc (cB 0 0)) #[.int .i64 oN,.int .i64 oA] 34;have q0:=q' 0;have q1:=q' 1;simp only[Δ,υ,ω]at q0 q1;have T9:=bB (w.alloc (cB 0 0)) #[.int .i64 oN,.int .i64 oA] 34;have H2:=H1.b F2;have R2:=R1.b F2;have eA:=cZ.trans ((H1.fb F2).mono λj E=>ε E);obtain⟨w3,pV,H3,P3,K3⟩:=H2.fetched ht 0;have c42:=H2.m.c4;have rB:=H2.m.y.aQ;have R3:=R2.blk (w':=w3) (K3.blk w.heap.size R2.tg.lt (λe=>by obtain⟨o',e1,e2⟩:=rB;exact aj e1 e2 R2.tg e.symm));have Jm:(w.alloc (cB 0 0)).heap.size≠ym:=λe=>by obtain⟨o',e1,e2⟩:=rB;exact aj e1 e2 T9 e.symm
 have q30:=(K3.cell (p:=⟨(w.alloc (cB 0 0)).heap.size,0,none⟩) T9.lt Jm).trans q0;have q31:=(K3.cell (p:=⟨(w.alloc (cB 0 0)).heap.size,1,none⟩) T9.lt Jm).trans q1;have fY:=I (eA.trans (P3.mono λj E=>ε E));have eD:=I H3;have hne:(w.alloc (cB 0 0)).heap.size≠w.heap.size:=by simp
 clear h F1 H1 cZ rS F2 q' T9 H2 R2 eA H3 P3 K3 rB R1;unfold bz;go_enter func82,ntmps82;go_upto_region 1 with(fail);generalize w.alloc (cB 0 0)=W at*;generalize KW:W.heap.size=b9 at*;go_upto_region 2 with(fail);generalize W.alloc (cB oN oA)=W2 at*;have hdel:∀ty,(Builtin.delete_ #[142,3] ty #[.map (some ym),.int .i64 t]).run prog W2=.ok (.tuple #[]) w3:=λ_=>pV;clear pV;obtain⟨r0,r1,bQ,rt⟩:=R3;have f0:=bQ 0;have f1:=bQ 1;obtain⟨t0,t1⟩:=aW r0 r1 (.int .i64 oN) (.int .i64 oA);clear bQ;go_wp2_with (at_delete;refine jJ _ rfl _ _ 142 3 rfl rfl rfl (hdel _) ?_);refine Θ (v:=.tuple #[.agg #[.int .i64 oN,.int .i64 oA],.bool bb]) (by simp[results,results82,go_sem,t0,t1];try rfl) rfl ?_;exact⟨rfl,(((Z eD).h_ (δ rfl) 0 _).h_ (δ rfl) 1 _).less λj E=>ε E,((Z fY).box (Z HV) (ζ _) 0 _).box (Z HV) (ζ _) 1 _⟩
end
section
variable {B:Nat}{C:Dc}{ab7:Nat->Prop}{X:Nat->Option Obj}{Y F ym:Nat}{S:Ds}{P:Ps}{w w':World}{e:Nat->Addr}
def di (C:Dc)(S:Ds)(o:Bl):Prop:=iM C.m C.sz S.Q o.1 o.2/\∀t∈ez S.ws S.pl,o∉S.ct t
theorem PD.out (h:PD B C ab7 X Y F ym S P w)(o:Bl)(b:Bool)(J:b=true↔di C S o):Calls prog 155 #[.pointer (some ⟨C.c,0,none⟩),.agg #[.int .i64 o.1,.int .i64 o.2]] w λev w'=>ev=.returned (.bool b)/\Below w.heap.size w w':=by
 obtain⟨ly,bs,q,f,rb,p1,p2,p3⟩:=DQ.ex h.k;refine(IY C.N0 C.c C.z (ly.1,ly.2,_) C.sz C.m bs S.Q o.1 o.2 w p1.c (o_ p1) q f p2.ml).mono ?_;rintro ev w'⟨hB,G⟩;have hf:f o.1 o.2=none↔∀t∈ez S.ws S.pl,o∉S.ct t:=by
  constructor
  ·intro hn t ht hm;have:=(p2.lf o.1 o.2 t).2 ⟨ht,hm⟩;rw[hn]at this;cases this
  ·intro hn;cases hq:f o.1 o.2 with
   |none=>rfl
   |some t =>
    obtain⟨ht,hm⟩:=(p2.lf o.1 o.2 t).1 hq;exact absurd hm (hn t ht)
 refine⟨?_,hB⟩;rcases G with⟨rfl,O,h3⟩|⟨rfl,O⟩
 ·have e:b=true:=J.2 ⟨O,hf.1 h3⟩;rw[e]
 ·have e:b=false:=by
   cases b with
   |false=>rfl
   |true =>
    obtain⟨h3,h4⟩:=J.1 rfl;exact absurd ⟨h3,hf.2 h4⟩ O
  rw[e]
theorem qK (h:PD B C ab7 X Y F ym S P w){o:Bl}(ho:o∈P.T)(b:Bool)(J:b=true↔di C S o):Calls prog 80 #[.pointer (some ⟨Y,0,none⟩),.agg #[.int .i64 o.1,.int .i64 o.2]] w λev w'=>ev=.returned (.bool b)/\Below w.heap.size w w':=by
 have F1:=χ (γ w.heap.size w) (cB o.1 o.2);have H1:=h.b F1;have q':=θ w #[.int .i64 o.1,.int .i64 o.2] 34;have q0:=q' 0;have q1:=q' 1;simp only[Δ,υ,ω]at q0 q1;have hw:=h.m.t.wf o ho;have hlk:∀W,Below (w.alloc (cB o.1 o.2)).heap.size (w.alloc (cB o.1 o.2)) W->(Instr.lookup 141 (.map (some F)) (.agg #[.int .i64 o.1,.int .i64 o.2]) true).run prog W=.ok (.tuple #[.agg #[],.bool true]) W:=λW hW=>by
  have:=(H1.m.t.b hW).look hw;rw[show decide ((o.1,o.2)∈P.T)=true by simpa using ho]at this;exact this
 have c3:=H1.m.c3;have c0:=H1.m.c0;have hs1:w.heap.size<(w.alloc (cB o.1 o.2)).heap.size:=by simp
 have hpl:=H1.m.tg.lt;have dD:=I H1;have cZ:=I F1;have HO:=I (λW (hW:Below (w.alloc (cB o.1 o.2)).heap.size (w.alloc (cB o.1 o.2)) W)=>(H1.b hW).out o b J);have HC:=I (λW (hW:Below (w.alloc (cB o.1 o.2)).heap.size (w.alloc (cB o.1 o.2)) W)=>jB (DQ.db (H1.b hW).k).d0);obtain⟨oN,oA⟩:=o;simp only at*;clear h F1 H1 q' ho J hw;go_enter func80,ntmps80;go_upto_region 1 with(fail);generalize w.alloc (cB oN oA)=W at*;have Sw:=hlk W.drew (dw W);have Sx:=hlk (W.alloc (.cells #[] 151)).drew (χ (γ _ _) _).drew;clear hlk;go_region
 all_goals (
  have mS:Below W.heap.size W (W.alloc (.cells #[] 151)).drew:=(χ (γ _ _) _).drew;have d0:=(mS.cell (p:=⟨Y,0,none⟩) hpl).trans c0;have x0:=(mS.cell (p:=⟨w.heap.size,0,none⟩) hs1).trans q0;have x1:=(mS.cell (p:=⟨w.heap.size,1,none⟩) hs1).trans q1;have p_:=I ((Z HC) _ mS.drew);have AE:=I ((Z HO) _ mS.drew);have eA:=I (bW (Z cZ) mS);have sV:Y<(W.alloc (.cells #[] 151)).drew.drew.heap.size:=ι hpl mS.drew.size;have hs2:w.heap.size<(W.alloc (.cells #[] 151)).drew.drew.heap.size:=ι hs1 mS.drew.size;clear Sw Sx HC HO mS q0 q1 c0 c3 dD cZ hpl hs1;generalize(W.alloc (.cells #[] 151)).drew=W2 at*;generalize W.heap.size=b5 at*;have HK:Hid (W2.drew.cell? ⟨Y,0,none⟩=some (.pointer (some ⟨C.d,0,none⟩))/\W2.drew.cell? ⟨w.heap.size,0,none⟩=some (.int .i64 oN)/\W2.drew.cell? ⟨w.heap.size,1,none⟩=some (.int .i64 oA)):=⟨d0,x0,x1⟩;go_wp2_with fail;go_region_held3 (λw'=>w'.cell? ⟨Y,0,none⟩=some (.pointer (some ⟨C.d,0,none⟩))/\w'.cell? ⟨w.heap.size,0,none⟩=some (.int .i64 oN)/\w'.cell? ⟨w.heap.size,1,none⟩=some (.int .i64 oA)) ((first|exact Z HK|(go_keep;done)|assumption)) ((first
   |(go_at_call 72;refine(Z p_).mono ?_;rintro ev w3⟨rfl,rfl⟩)
   |(go_at_call 155;refine(Z AE).mono ?_;rintro ev w4⟨rfl,b4⟩;have SK4:w4.cell? ⟨Y,0,none⟩=some (.pointer (some ⟨C.d,0,none⟩))/\w4.cell? ⟨w.heap.size,0,none⟩=some (.int .i64 oN)/\w4.cell? ⟨w.heap.size,1,none⟩=some (.int .i64 oA):=⟨(b4.cell (p:=⟨Y,0,none⟩) sV).trans (Z HK).1,(b4.cell (p:=⟨w.heap.size,0,none⟩) hs2).trans (Z HK).2.1,(b4.cell (p:=⟨w.heap.size,1,none⟩) hs2).trans (Z HK).2.2⟩)))
  all_goals (
   go_wp2;go_ret;exact⟨rfl,bW (Z eA).drew b4⟩))
end
section
variable {B:Nat}{C:Dc}{ab7:Nat->Prop}{X:Nat->Option Obj}{Y F ym:Nat}{S:Ds}{P:Ps}{w w':World}{e:Nat->Addr}
theorem PD.Nz (h:PD B C ab7 X Y F ym S P w){t:Nat}(hw:(Lit.int .i64 (t:Int)).wf=true)(o:Bl)(hn:t∉P.ab6.map (·.1))(hq:P.q<maxLen):∃w',(Instr.mapUpdate 142 (.map (some ym)) (.int .i64 t) (.agg #[.int .i64 o.1,.int .i64 o.2])).run prog w=.ok () w'/\PD B C ab7 X Y F ym S {P with ab6:=P.ab6++[(t,o)],q:=P.q+1} w'/\PF ab7 P {P with ab6:=P.ab6++[(t,o)],q:=P.q+1} w w'/\Kp (λb=>b=ym) w w':=by
 obtain⟨w',hr,hm,D⟩:=h.m.y.put hq hw o.1 o.2 hn;have hK:Kp (λb=>b=ym) w w':=Kp.kept D rfl rfl;have Sp:=h.m.maps (w':=w') (λb J=>D.block b (by
  rcases J with rfl|J|J
  ·exact h.m.tg.lt
  ·exact(ay h.m.r J).1.lt
  ·exact(ay h.m.l J).1.lt) (h.m.yr J).2 (h.m.yr J).2) ((h.m.t.blk (D.block F h.m.t.lt h.m.ne h.m.ne)).mono (Nat.le_succ _)) hm
 obtain⟨G,O⟩:=h.own Sp (hK.mono λk _ e=>δ (δ (ε e))) (λj E=>ε E) (λj E=>ε E);exact⟨w',hr,G,O,hK⟩
theorem yw (h:PD B C ab7 X Y F ym S P w){t:Nat}{L:List Nat}(hL:P.L=t::L)(ht:(Lit.int .i64 (t:Int)).wf=true)(hn:t∉P.ab6.map (·.1))(hq:P.q<maxLen)(x:Int)(o:Bl):
  Calls prog 81 #[.pointer (some ⟨Y,0,none⟩),.int .i64 x,.agg #[.int .i64 o.1,.int .i64 o.2]] w λev w'=>ev=.returned .nilIface/\∃ic,PD B C ab7 X Y F ym S {P with ab6:=P.ab6++[(t,o)],q:=P.q+1,L:=L,vl:=ic} w'/\PF ab7 P {P with ab6:=P.ab6++[(t,o)],q:=P.q+1,L:=L,vl:=ic} w w':=by
 have F1:=χ (γ w.heap.size w) (cB o.1 o.2);have H1:=h.b F1;have cZ:=h.fb F1;have q':=θ w #[.int .i64 o.1,.int .i64 o.2] 34;have q0:=q' 0;have q1:=q' 1;simp only[Δ,υ,ω]at q0 q1;have H2:=H1.b (dw _);have eA:=cZ.trans ((H1.fb (dw _)).mono λj E=>E);obtain⟨b,c,hv,hc0,jR⟩:=Jj H2.m hL;obtain⟨w3,xS,H3,P3,K3⟩:=H2.Nz ht o hn hq;have rB:=H2.m.y.aQ;have hbl:OB P.vl b:=by rw[hv];rfl
 have vG:=(ay H2.m.l hbl).1;have U1:b≠ym:=λe=>by obtain⟨o',e1,e2⟩:=rB;exact aj e1 e2 vG e.symm
 have hb3:=K3.blk b vG.lt U1;have WJ:=I (jR w3 hb3);have c4:=H1.m.c4;have c5:=H1.m.c5;have hc1:(w.alloc (cB o.1 o.2)).cell? ⟨b,0,none⟩=some (.int .i64 t):=hc0;have Zy:=H3.m.c5;have f53:=H3.m.fz 5;have GZ:b≠Y:=vG.ne H2.m.tg (by decide);have T3:=H3.m.tg;have H3l:=H3.m.l;simp only at Zy H3l;rw[hv]at c5 Zy;have eD:=I H3;have fY:=I (eA.trans P3);have HB:=I hbl;have Zz:=I (vG.blk hb3);have d1:decide (((L.length+1:Nat):Int)>0)=true:=by simp
 have d2:decide ((0:Int)<((L.length+1:Nat):Int))=true:=by simp
 obtain⟨oN,oA⟩:=o;simp only at*;clear h F1 H1 cZ H2 eA jR q' H3 P3 K3 rB hbl vG hb3 hc0 hL hn hq ht U1 H3l hv;go_enter func81,ntmps81;go_upto_region 2 with(fail);generalize w.alloc (cB oN oA)=W at*;go_region
 go_wp2_with fail;refine(Z WJ).mono ?_;rintro ev w4⟨rfl,o4,k4⟩;have S3:=Z eD;have K4:Kp (PB Y F ym {P with ab6:=P.ab6++[(t,(oN,oA))],q:=P.q+1}) w3 w4:=(Kp.kept (S:=λj=>j=b) k4 rfl rfl).mono λk _ e=>by
  obtain rfl:k=b:=e;exact δ (δ (δ (δ (Z HB))))
 have hne:∀j,j=Y\/j=F\/j=ym\/OB P.vr j->w4.heap[j]?=w3.heap[j]?:=λj E=>by
  have hjb:j≠b:=by
   rcases E with h|h|h|h
   ·exact λe=>GZ (e.symm.trans h)
   ·obtain⟨o,e1,e2⟩:=S3.m.t.aQ;exact λe=>aj e1 e2 (Z Zz) (h.symm.trans e)
   ·obtain⟨o,e1,e2⟩:=S3.m.y.aQ;exact λe=>aj e1 e2 (Z Zz) (h.symm.trans e)
   ·exact((ay S3.m.r h).1.ne (Z Zz) (by decide))
  have hlt:j<w3.heap.size:=(S3.m.lt (b:=j) (by
   rcases E with h|h|h|h
   ·exact ε h
   ·exact δ (ε h)
   ·exact δ (δ (ε h))
   ·exact δ (δ (δ (ε h))))).1
  exact k4.block j hlt hjb hjb
 have M5:=S3.m.AZ hne o4;have K5:Kp (PB Y F ym {P with ab6:=P.ab6++[(t,(oN,oA))],q:=P.q+1}) w3 (w4.setCell ⟨Y,5,none⟩ (.slice (some ⟨b,0,none⟩) L.length c)):=K4.trans (Kp.set w4 Y 5 _ (ε rfl));obtain⟨H5,P5⟩:=S3.own M5 K5 (λj E=>ε E) (λj E=>ε (by
  have:b=j:=by simpa[OB,Value.ownBlock]using E
  rw[<- this];exact Z HB))
 have gW:=I H5;have iY:=I ((Z fY).trans P5);have z5:w4.cell? ⟨Y,5,none⟩=some (.slice (some ⟨b,0,none⟩) (L.length+1) c):=(η (a:=⟨Y,5,none⟩) (hne Y (ε rfl))).trans Zy;have y5:w4.frozen? ⟨Y,5,none⟩=false:=(π (a:=⟨Y,5,none⟩) (hne Y (ε rfl))).trans f53;clear K4 hne M5 K5 H5 P5 S3 eD fY HB Zz o4 k4 WJ Zy f53 T3;go_wp2;go_ret;exact⟨rfl,_,Z gW,Z iY⟩
end
section
variable {B:Nat}{C:Dc}{ab7:Nat->Prop}{X:Nat->Option Obj}{Y F ym:Nat}{S:Ds}{P:Ps}{w w':World}{e:Nat->Addr}
theorem PD.dropped (h:PD B C ab7 X Y F ym S P w){o:Bl}(ho:o∈P.T)(ty:TypeId):∃w',(Builtin.delete_ #[141,34] ty #[.map (some F),.agg #[.int .i64 o.1,.int .i64 o.2]]).run prog w=.ok (.tuple #[]) w'/\PD B C ab7 X Y F ym S {P with T:=P.T.erase o} w'/\PF ab7 P {P with T:=P.T.erase o} w w'/\Kp (λb=>b=F) w w':=by
 obtain⟨w',hr,hm,D⟩:=h.m.t.drop (h.m.t.wf o ho) ho ty;have hK:Kp (λb=>b=F) w w':=Kp.kept D rfl rfl;have Sp:=h.m.maps (w':=w') (λb J=>D.block b (by
  rcases J with rfl|J|J
  ·exact h.m.tg.lt
  ·exact(ay h.m.r J).1.lt
  ·exact(ay h.m.l J).1.lt) (h.m.yr J).1 (h.m.yr J).1) hm (h.m.y.blk (D.block ym h.m.y.lt h.m.ne.symm h.m.ne.symm))
 obtain⟨G,O⟩:=h.own Sp (hK.mono λk _ e=>δ (ε e)) (λj E=>ε E) (λj E=>ε E);exact⟨w',hr,G,O,hK⟩
end
def pG (n:Nat):Ps:=⟨n,[],[],[],[],0,0,.slice none 0 0,.slice none 0 0⟩
theorem A_ {j:Nat}{n c:Nat}:¬OB (.slice none n c) j:=λh=>by simp[OB,Value.ownBlock]at h
def qg (w:World)(d n:Nat):World:=((w.alloc (.map #[] 0)).alloc (.map #[] 0)).alloc (.cells #[.pointer (some ⟨d,0,none⟩),.int .i64 n,.slice none 0 0,.map (some w.heap.size),.map (some (w.heap.size+1)),.slice none 0 0,.int .i64 0] 144)
section
variable {B:Nat}{C:Dc}{ab7:Nat->Prop}{X:Nat->Option Obj}{Y F ym:Nat}{S S':Ds}{P:Ps}{w:World}{e:Nat->Addr}{x y:Int}{u:Bool}{r:Option Nat}{o:Bl}
theorem Jn (h:mV C S x y u r o S'):S'.ws.length=S.ws.length:=by cases h<;>simp
theorem Ba (w:World)(d n:Nat):Below w.heap.size w (qg w d n):=χ (χ (χ (γ _ _) _) _) _
theorem PD.start (h:DK C ab7 X S w)(Sy:C.w0.heap.size<=B)(hB:B<=w.heap.size)(n:Nat):PD B C ab7 X (w.heap.size+1+1) w.heap.size (w.heap.size+1) S (pG n) (qg w C.d n):=by
 have b:=Ba w C.d n;have hs1:(w.alloc (.map #[] 0)).heap.size=w.heap.size+1:=by simp
 have hs2:((w.alloc (.map #[] 0)).alloc (.map #[] 0)).heap.size=w.heap.size+1+1:=by simp
 have q':=θ ((w.alloc (.map #[] 0)).alloc (.map #[] 0)) #[.pointer (some ⟨C.d,0,none⟩),.int .i64 n,.slice none 0 0,.map (some w.heap.size),.map (some (w.heap.size+1)),.slice none 0 0,.int .i64 0] 144;have tg:=bB ((w.alloc (.map #[] 0)).alloc (.map #[] 0)) #[.pointer (some ⟨C.d,0,none⟩),.int .i64 n,.slice none 0 0,.map (some w.heap.size),.map (some (w.heap.size+1)),.slice none 0 0,.int .i64 0] 144;rw[hs2]at q' tg;have fz:∀o,(qg w C.d n).frozen? ⟨w.heap.size+1+1,o,none⟩=false:=λo=>aG _ _ (w.heap.size+1+1) o hs2.symm;have M1:=(Mo.made w).b (χ (γ _ _) (.map #[] 0));have M2:=M1.b (χ (γ _ _) (.cells #[.pointer (some ⟨C.d,0,none⟩),.int .i64 n,.slice none 0 0,.map (some w.heap.size),.map (some (w.heap.size+1)),.slice none 0 0,.int .i64 0] 144));have Y1:=My.made (w.alloc (.map #[] 0));rw[hs1]at Y1;have Y2:=Y1.b (χ (γ _ _) (.cells #[.pointer (some ⟨C.d,0,none⟩),.int .i64 n,.slice none 0 0,.map (some w.heap.size),.map (some (w.heap.size+1)),.slice none 0 0,.int .i64 0] 144));have hm:jo B (qg w C.d n) (w.heap.size+1+1) C.d w.heap.size (w.heap.size+1) (pG n):=⟨q' 0,q' 1,q' 2,q' 3,q' 4,q' 5,q' 6,tg,fz,Ξ _ _ _ _,Ξ _ _ _ _,M2,Y2,by omega,by omega,⟨hB,by omega⟩⟩;have hx:∀j o,X j=some o->j<w.heap.size:=λj o e=>(Array.getElem?_eq_some_iff.mp (h.map e).1).1;have Lv:X w.heap.size=none/\X (w.heap.size+1)=none:=by
  constructor
  ·cases e:X w.heap.size with
   |none=>rfl
   |some o=>have:=hx _ _ e;omega
  ·cases e:X (w.heap.size+1)with
   |none=>rfl
   |some o=>have:=hx _ _ e;omega
 have yq:=λj (E:ab7 j)=>(DQ.uk h j E).lt;have hK:DK C (λj=>ab7 j\/OB (pG n).vr j) (X2 w.heap.size (w.heap.size+1) X (qg w C.d n)) S (qg w C.d n):=by
  refine h.iV (T:=λ_=>False) (Kp.below b) (λ_ _ _ _ _ _ _ _=>id) (λ_ h=>h.elim) (λ_ h=>h.elim) (λj o e=>?_) (λj E=>?_)
  ·unfold X2 at e;by_cases E:j=w.heap.size\/j=w.heap.size+1
   ·rw[af E]at e;refine⟨e,?_,δ (by omega)⟩;rcases E with rfl|rfl
    ·obtain⟨o',e1,e2⟩:=hm.t.aQ;rw[e1]at e;rw[<- ah e];exact e2
    ·obtain⟨o',e1,e2⟩:=hm.y.aQ;rw[e1]at e;rw[<- ah e];exact e2
   ·rw[ai E]at e;exact⟨(b.block j (hx j o e)).trans (h.map e).1,(h.map e).2,ε ⟨o,e⟩⟩
  ·rcases E with E|E
   ·exact⟨(DQ.uk h j E).b b,ε E⟩
   ·exact absurd E A_
 exact⟨hK,hm,λ_ _ _ _ _ _ _ _ E=>A_ E,λj E=>absurd E A_,Lv,Sy⟩
theorem PD.push (h:PD B C ab7 X Y F ym S P w){W w4:World}{o:Bl}{v':Value}(BA:Below w.heap.size w W)(o4:w4.ownsRow B 34 2 v' (P.R++[o]).length (flat (P.R++[o])))(D:Kp (λb=>OB P.vr b) W w4)(hg:∀j,OB v' j->OB P.vr j\/w.heap.size<=j):
  PD B C ab7 X Y F ym S {P with R:=P.R++[o],vr:=v'} (w4.setCell ⟨Y,2,none⟩ v')/\PF ab7 P {P with R:=P.R++[o],vr:=v'} w (w4.setCell ⟨Y,2,none⟩ v'):=by
 have G:=h.b BA;have hne:∀b,b=Y\/b=F\/b=ym\/OB P.vl b->w4.heap[b]?=W.heap[b]?:=λb J=>by
  have WG:PB Y F ym P b:=by
   rcases J with h|h|h|h
   ·exact ε h
   ·exact δ (ε h)
   ·exact δ (δ (ε h))
   ·exact δ (δ (δ (δ h)))
  refine D.blk b (G.m.lt WG).1 (λho=>?_);have ht:=(ay G.m.r ho).1;rcases J with h|h|h|h
  ·exact(h▸ht).ne G.m.tg (by decide) rfl
  ·obtain⟨o,e1,e2⟩:=G.m.t.aQ;exact aj e1 e2 (h▸ht) rfl
  ·obtain⟨o,e1,e2⟩:=G.m.y.aQ;exact aj e1 e2 (h▸ht) rfl
  ·exact ht.ne (ay G.m.l h).1 (by decide) rfl
 have hM:=G.m.Fi hne o4;have hK:Kp (PB Y F ym P) w (w4.setCell ⟨Y,2,none⟩ v'):=((Kp.below BA).trans (D.mono λk _ e=>δ (δ (δ (ε e))))).trans (Kp.set w4 Y 2 v' (ε rfl));exact h.own hM hK hg (λj E=>ε E)
end
def VF (ab7:Nat->Prop)(w w':World):Prop:=(∀k,ab7 k->w'.heap[k]?=w.heap[k]?)/\w.heap.size<=w'.heap.size
section
variable {C:Dc}{X:Nat->Option Obj}{pg tk q:Nat}{S:Ds}{w:World}{o:Bl}{l:List Bl}
theorem FS.le (h:FS pg C S l):l.length<=pg*C.m:=by
 have G:S.Q.length<=pg:=by have:=h.fi.pg;have:=(mD (l:=(S.V 0).aca)).1;omega
 have O:=qJ C.m S.Q;have h3:S.Q.length*C.m<=pg*C.m:=gA _ G;have h4:=h.fi.tt;omega
theorem FS.w2 (h:FS pg C S l){U:Nat->Prop}(hD:DK C U X S w)(ho:o∈l):W2 o.1 o.2:=by
 obtain⟨ly,bs,q,f,rb,hP,O,h3⟩:=DQ.ex hD;exact iM.w2 hP.c (h.tk o ho)
theorem FS.out (h:FS pg C S l)(ho:o∈l):di C S o:=⟨h.tk o ho,λt _=>by rw[h.ct];simp⟩
end
section
variable {B:Nat}{C:Dc}{ab7 V':Nat->Prop}{X:Nat->Option Obj}{Y F ym:Nat}{S:Ds}{P:Ps}{w w':World}
theorem PD.others (h:PD B C ab7 X Y F ym S P w)(D:Kp ab7 w w')(hV:∀j,V' j->Tag w' j 34/\(ab7 j\/w.heap.size<=j)):PD B C V' X Y F ym S P w':=by
 have wN:∀b,PB Y F ym P b->¬ab7 b:=λb J hv=>by
  have ht:=h.iH b hv;rcases J with rfl|rfl|rfl|J|J
  ·exact ht.ne h.m.tg (by decide) rfl
  ·obtain⟨o,e1,e2⟩:=h.m.t.aQ;exact aj e1 e2 ht rfl
  ·obtain⟨o,e1,e2⟩:=h.m.y.aQ;exact aj e1 e2 ht rfl
  ·exact h.dj b J hv
  ·exact ht.ne (ay h.m.l J).1 (by decide) rfl
 have hs:∀b,PB Y F ym P b->w'.heap[b]?=w.heap[b]?:=λb J=>D.blk b (h.m.lt J).1 (wN b J);have e:=kG (X:=X) (hs F (δ (ε rfl))) (hs ym (δ (δ (ε rfl))));have hK:DK C (λj=>V' j\/OB P.vr j) (X2 F ym X w) S w':=by
  refine h.k.iV D ?_ (λb J=>DQ.ul h.k b (ε J)) (λb J=>ε (ε J)) (λb o e=>?_) (λj E=>?_)
  ·intro g c i h' d e1 e2 hi hv;obtain⟨g2,c2,rows,e3,o2,r2⟩:=h.k.dz.cf;rw[e3]at e1;simp only[τ,ψ,av,bI,aZ]at e1;obtain⟨rfl,rfl⟩:=e1;obtain⟨O,d2,e4,o3⟩:=r2 i hi;rw[(o2.cellAt i (by omega)).trans e4]at e2;simp only[τ,ψ,av,bI,aZ]at e2;obtain⟨rfl,rfl⟩:=e2;exact(fV o3).ne (h.iH _ hv) (by decide) rfl
  ·obtain⟨e1,e2⟩:=h.k.map e;exact⟨(D.blk b (Array.getElem?_eq_some_iff.mp e1).1 (λhv=>aj e1 e2 (h.iH b hv) rfl)).trans e1,e2,ε ⟨o,e⟩⟩
  ·rcases E with E|E
   ·exact⟨(hV j E).1,(hV j E).2.imp ε id⟩
   ·exact⟨(ay h.m.r E).1.blk (hs j (δ (δ (δ (ε E))))),ε (δ E)⟩
 refine⟨by rw[e];exact hK,h.m.keep hs,h.nr.keep h.k.dz (λc t hm K=>D.blk c K.lt (λhv=>K.ne (h.iH c hv) (λe=>by subst e;simp at hm) rfl)) (λj E=>ε E),λj E hv=>?_,h.xt,h.hB⟩;rcases(hV j hv).2 with hv'|hv'
 ·exact h.dj j E hv'
 ·have:=(ay h.m.r E).1.lt;omega
end
section
variable {B:Nat}{C:Dc}{ab7:Nat->Prop}{X:Nat->Option Obj}{Y F ym:Nat}{S:Ds}{P:Ps}{w w':World}{e:Nat->Addr}
theorem FI (h:PD B C ab7 X Y F ym S P w)(he:dM C.w0 e){x:Int}(hx:¬(0<=x/\x<S.ws.length))(y:Int):
  Calls prog 15 #[.pointer (some ⟨Y,0,none⟩),.int .i64 x,.int .i64 y] w λev w'=>ev=.returned (.tuple #[bz 0 0,bc (e 1)])/\PD B C ab7 X Y F ym S P w'/\PF ab7 P P w w':=by
 have F1:=χ (γ w.heap.size w) (cB 0 0);have R1:=cQ w;have H1:=h.more F1 (ζ _) R1.tg;have cZ:=I (h.fb F1);have kH:=I (H1.check he x);rw[ai hx]at kH;have HV:=I h.uu;have fk:=I R1;have dD:=I H1;clear h F1 R1 H1 he hx;unfold bz bc at*;go_enter func15,ntmps15;go_upto_region 1 with(fail);generalize w.alloc (cB 0 0)=W at*;go_wp2_with fail;refine(Z kH).mono ?_;rintro ev w1⟨rfl,rfl⟩;clear kH;obtain⟨r0,r1,bQ,rt⟩:=Z fk;have f0:=bQ 0;have f1:=bQ 1;obtain⟨t0,t1⟩:=aW r0 r1 (.int .i64 0) (.int .i64 0);clear bQ;go_wp2;refine Θ (v:=.tuple #[.agg #[.int .i64 0,.int .i64 0],.iface 424 (.pointer (some (e 1)))]) (by simp[results,results15,go_sem,t0,t1];try rfl) rfl ?_;exact⟨rfl,(((Z dD).h_ (δ rfl) 0 _).h_ (δ rfl) 1 _).less λj E=>ε E,((Z cZ).box (Z HV) (ζ _) 0 _).box (Z HV) (ζ _) 1 _⟩
end
section
variable {B:Nat}{C:Dc}{ab7:Nat->Prop}{X:Nat->Option Obj}{Y F ym:Nat}{S:Ds}{P:Ps}{w w':World}{e:Nat->Addr}
theorem FJ (h:PD B C ab7 X Y F ym S P w)(he:dM C.w0 e){x y:Int}(hx:0<=x/\x<S.ws.length)(hy:¬(0<=y/\y<C.k)):
  Calls prog 15 #[.pointer (some ⟨Y,0,none⟩),.int .i64 x,.int .i64 y] w λev w'=>ev=.returned (.tuple #[bz 0 0,bc (e 1)])/\PD B C ab7 X Y F ym S P w'/\PF ab7 P P w w':=by
 have F1:=χ (γ w.heap.size w) (cB 0 0);have R1:=cQ w;have H1:=h.more F1 (ζ _) R1.tg;have cZ:=I (h.fb F1);have kH:=I (H1.check he x);rw[af hx]at kH;have Jl:=I (jB (DQ.db H1.k).d0);have zA:=I (H1.has he y);rw[dE hy]at zA;have rS:=h.uu;have fk:=I R1;have dD:=I H1;have c0:=H1.m.c0;have HV:=I rS;have HE:=I he;clear h F1 R1 H1 rS he;unfold bz bc at*;go_enter func15,ntmps15;go_upto_region 1 with(fail);generalize w.alloc (cB 0 0)=W at*;go_wp2_with fail;refine(Z kH).mono ?_;rintro ev w1⟨rfl,rfl⟩;clear kH;go_wp2_with fail;refine(Z Jl).mono ?_;rintro ev w2⟨rfl,rfl⟩;clear Jl;go_wp2_with fail;refine(Z zA).mono ?_;rintro ev w3⟨rfl,b3⟩;have H3:=(Z dD).b b3;have fY:=I ((Z cZ).trans (((Z dD).fb b3).mono λj E=>ε E));have iq:=I ((Z fk).b b3);have v1:=((Z HE).below (DQ.b0 H3.k)).v1;have qT:(1:Nat)≠w.heap.size:=by
  have h3:=(Z HE).v1;have hs:=(DQ.b0 (Z dD).k).size;have hs2:=(Z fk).tg.lt;have hC:=H3.hB;have hg:=H3.m.ge;have hU:C.w0.heap.size<=w.heap.size:=DQ.ul H3.k w.heap.size (ε (δ rfl));unfold World.cell? at h3;cases J:C.w0.heap[1]? with
  |none=>simp only[J]at h3;cases h3
  |some o=>have:=(Array.getElem?_eq_some_iff.mp J).1;omega
 have eD:=I H3;unfold bc at v1;clear zA dD cZ fk c0 b3 H3;obtain⟨r0,r1,bQ,rt⟩:=Z iq;have f0:=bQ 0;have f1:=bQ 1;obtain⟨t0,t1⟩:=aW r0 r1 (.int .i64 0) (.int .i64 0);clear bQ;go_wp2_with fail;go_region
 have aa6:Hid (PD B C ab7 X Y F ym S P ((w3.setCell ⟨w.heap.size,0,none⟩ (.int .i64 0)).setCell ⟨w.heap.size,1,none⟩ (.int .i64 0)).drew):=((((Z eD).h_ (δ rfl) 0 _).h_ (δ rfl) 1 _).b (dw _)).less λj E=>ε E;have wq:Hid (PF ab7 P P w ((w3.setCell ⟨w.heap.size,0,none⟩ (.int .i64 0)).setCell ⟨w.heap.size,1,none⟩ (.int .i64 0)).drew):=(((Z fY).box (Z HV) (ζ _) 0 _).box (Z HV) (ζ _) 1 _).trans ((((((Z eD).h_ (δ rfl) 0 _).h_ (δ rfl) 1 _).fb (dw _))).mono λj E=>ε E);have XM:((w3.setCell ⟨w.heap.size,0,none⟩ (.int .i64 0)).setCell ⟨w.heap.size,1,none⟩ (.int .i64 0)).drew.cell? ⟨w.heap.size,0,none⟩=some (.int .i64 0):=t0;have XN:((w3.setCell ⟨w.heap.size,0,none⟩ (.int .i64 0)).setCell ⟨w.heap.size,1,none⟩ (.int .i64 0)).drew.cell? ⟨w.heap.size,1,none⟩=some (.int .i64 0):=t1;clear t0 t1 r0 r1 f0 f1 v1 eD fY iq;generalize((w3.setCell ⟨w.heap.size,0,none⟩ (.int .i64 0)).setCell ⟨w.heap.size,1,none⟩ (.int .i64 0)).drew=w5 at*;go_wp2;refine Θ (v:=.tuple #[.agg #[.int .i64 0,.int .i64 0],.iface 424 (.pointer (some (e 1)))]) (by simp[results,results15,go_sem,XM,XN];try rfl) rfl ?_;exact⟨rfl,Z aa6,Z wq⟩
end
section
theorem gm {a c:World}(h:a.grownBy c none):Below a.heap.size a c:=⟨h.os,h.tape,h.output,h.size,λi hi=>h.block i hi (by simp)⟩
end
section
variable {B:Nat}{C:Dc}{ab7:Nat->Prop}{X:Nat->Option Obj}{Y F ym:Nat}{S:Ds}{P:Ps}{w w':World}{e:Nat->Addr}
theorem J6 (h:PD B C ab7 X Y F ym S P w)(hL:P.L=[])(hr:P.R.length<P.most)(hm:P.most<=16)(x:Int)(o:Bl):
  Calls prog 81 #[.pointer (some ⟨Y,0,none⟩),.int .i64 x,.agg #[.int .i64 o.1,.int .i64 o.2]] w λev w'=>ev=.returned .nilIface/\∃rR,PD B C ab7 X Y F ym S {P with R:=P.R++[o],vr:=rR} w'/\PF ab7 P {P with R:=P.R++[o],vr:=rR} w w':=by
 have F1:=χ (γ w.heap.size w) (cB o.1 o.2);have H1:=h.b F1;have cZ:=I (h.fb F1);have q':=θ w #[.int .i64 o.1,.int .i64 o.2] 34;have q0:=q' 0;have q1:=q' 1;simp only[Δ,υ,ω]at q0 q1;have hbl:w.heap.size<(w.alloc (cB o.1 o.2)).heap.size:=by simp
 obtain⟨pl,cl,yq⟩:=aX H1.m.l;obtain⟨pr,cr,lU⟩:=aX H1.m.r;have c5:=H1.m.c5;have c2:=H1.m.c2;have c1:=H1.m.c1;rw[yq,hL]at c5;rw[lU]at c2;have A8:=I lU;have d1:decide ((P.R.length:Int)<(P.most:Int))=true:=by simp;omega
 have d2:(P.R.length:Int)<(P.most:Int):=by omega
 have dD:=I H1;obtain⟨oN,oA⟩:=o;have abc:P.R.length<16:=by omega
 simp only[aA]at*;clear h F1 H1 q' yq lU hL hm hr;generalize hn:P.R.length=n at*;have HN:=I hn;clear hn;go_enter func81,ntmps81;go_upto_region 5 with(fail);generalize w.alloc (cB oN oA)=W at*;go_quiet (fail);have bq:Below W.heap.size W (W.drewN nq):=iB (γ _ _) nq;have H2:=(Z dD).b bq;have eA:=I ((Z cZ).trans ((Z dD).fb bq));have x0:=(bq.cell (p:=⟨w.heap.size,0,none⟩) hbl).trans q0;have x1:=(bq.cell (p:=⟨w.heap.size,1,none⟩) hbl).trans q1;have y2:=H2.m.c2;rw[Z A8]at y2;have f2:=H2.m.fz 2;have r3:=H2.m.r;rw[Z A8,Z HN]at r3;have T3:=H2.m.tg;have eD:=I H2;clear cZ dD H2 q0 q1 hbl c5 c2 c1 d1 d2;generalize W.drewN nq=W3 at*;have BA:Below W3.heap.size W3 (W3.alloc (cB oN oA)).drew:=(χ (γ _ _) _).drew;have iE:=aN r3 BA;have ir:=T3.b BA;have hNb:B<=(W3.alloc (cB oN oA)).drew.heap.size:=σ (σ (Z eD).m.ge (ck T3.lt)) BA.size;have j9:=(BA.cell (p:=⟨Y,2,none⟩) T3.lt).trans y2;have j_:=(BA.frozen (p:=⟨Y,2,none⟩) T3.lt).trans f2;go_wp2_with fail;go_region_law (refine lT rfl (.tmp 46) (.tmp 48) rfl B (.slice pr n cr) n (flat P.R) (by simp[Act.eval]) iE (by simp[Act.eval]) (by omega) hNb ?_;intro g4 c4 w4 o4 q4 hg4 kE;have e4:=q4.block Y ir.lt (d_ iE ir (by decide));have sQ:w4.cell? ⟨Y,2,none⟩=some (.slice pr n cr):=(η (a:=⟨Y,2,none⟩) e4).trans j9;have ue:w4.frozen? ⟨Y,2,none⟩=false:=(π (a:=⟨Y,2,none⟩) e4).trans j_);all_goals
  have ui:w4.ownsRow B 34 2 (.slice (some ⟨g4,0,none⟩) (n+1) c4) (P.R++[(oN,oA)]).length (flat (P.R++[(oN,oA)])):=by
   rw[φ,Z HN,bM];exact o4
  have hk4:Kp (λb=>OB P.vr b) (W3.alloc (cB oN oA)).drew w4:=⟨q4.os,q4.tape,q4.output,q4.size,λk D hn=>q4.block k D (λe=>hn (by rw[Z A8];exact e.symm))⟩;have hG:∀b,OB (.slice (some ⟨g4,0,none⟩) (n+1) c4) b->OB P.vr b\/W3.heap.size<=b:=λb J=>by
   obtain rfl:g4=b:=by simpa[OB,Value.ownBlock]using J
   rcases hg4 with h|h
   ·exact ε (by rw[Z A8];exact h)
   ·right;have G:=BA.size;omega
  obtain⟨H5,P5⟩:=(Z eD).push (o:=(oN,oA)) BA ui hk4 hG;have gW:=I H5;have iY:=I ((Z eA).trans P5);clear hG hk4 ui H5 P5 o4 q4 hg4 kE e4 sQ ue j9 j_ iE BA ir hNb;generalize w4.setCell ⟨Y,2,none⟩ (.slice (some ⟨g4,0,none⟩) (n+1) c4)=w5 at*;go_wp2;go_ret;exact⟨rfl,_,Z gW,Z iY⟩
end
section
variable {B:Nat}{C:Dc}{ab7:Nat->Prop}{X:Nat->Option Obj}{Y F ym:Nat}{S S':Ds}{P:Ps}{w w':World}{e:Nat->Addr}
theorem FU (h:PD B C ab7 X Y F ym S P w)(hN:C.w0.heap.size<=C.N0)(he:dM C.w0 e)(hL:P.L=[])(hr:P.most<=P.R.length)(x:Int)(o:Bl)(hQ:S.ab5<=900000):
  Calls prog 81 #[.pointer (some ⟨Y,0,none⟩),.int .i64 x,.agg #[.int .i64 o.1,.int .i64 o.2]] w λev w'=>∃r S',ev=.returned (wO e r)/\yj C S x o r S'/\PD B C ab7 X Y F ym S' P w'/\PF ab7 P P w w':=by
 have F1:=χ (γ w.heap.size w) (cB o.1 o.2);have H1:=h.b F1;have cZ:=I (h.fb F1);have q':=θ w #[.int .i64 o.1,.int .i64 o.2] 34;have q0:=q' 0;have q1:=q' 1;simp only[Δ,υ,ω]at q0 q1;have hbl:w.heap.size<(w.alloc (cB o.1 o.2)).heap.size:=by simp
 obtain⟨pl,cl,yq⟩:=aX H1.m.l;obtain⟨pr,cr,lU⟩:=aX H1.m.r;have c5:=H1.m.c5;have c2:=H1.m.c2;have c1:=H1.m.c1;rw[yq,hL]at c5;rw[lU]at c2;have d1:decide ((P.R.length:Int)<(P.most:Int))=false:=by simp;omega
 have d2:¬(P.R.length:Int)<(P.most:Int):=by omega
 have dD:=I H1;obtain⟨oN,oA⟩:=o;simp only[aA]at*;have HE:=I he;clear h F1 H1 q' yq lU hL hr he;generalize hn:P.R.length=n at*;clear hn;go_enter func81,ntmps81;go_upto_region 5 with(fail);generalize w.alloc (cB oN oA)=W at*;go_quiet (fail);have bq:Below W.heap.size W (W.drewN nq):=iB (γ _ _) nq;have H2:=(Z dD).b bq;have eA:=I ((Z cZ).trans ((Z dD).fb bq));have x0:=(bq.cell (p:=⟨w.heap.size,0,none⟩) hbl).trans q0;have x1:=(bq.cell (p:=⟨w.heap.size,1,none⟩) hbl).trans q1;have y0:=H2.m.c0;have uC:=I ((H2.b (dw _)).k.give hN hQ (Z HE).Ro x (oN,oA));have eD:=I H2;clear cZ dD H2 q0 q1 hbl c5 c2 c1 d1 d2;generalize W.drewN nq=W3 at*;go_wp2_with fail;go_region_with ((go_at_call 148;refine(Z uC).mono ?_;rintro ev w5⟨r,S',rfl,hG,D5,U5⟩));all_goals
  obtain⟨H5,P5⟩:=((Z eD).b (dw _)).turn D5 U5;have gW:=I H5;have iY:=I (((Z eA).trans ((Z eD).fb (dw _))).trans P5);have HG:=I hG;clear H5 P5 D5 U5 hG eD eA uC x0 x1 y0;go_wp2;go_ret;exact⟨r,S',rfl,Z HG,Z gW,Z iY⟩
end
section
variable {B:Nat}{C:Dc}{ab7:Nat->Prop}{X:Nat->Option Obj}{Y F ym:Nat}{S:Ds}{P:Ps}{w w':World}
theorem J7 (h:PD B C ab7 X Y F ym S P w){o:Bl}(hw:W2 o.1 o.2)(ho:o∉P.T):Calls prog 80 #[.pointer (some ⟨Y,0,none⟩),.agg #[.int .i64 o.1,.int .i64 o.2]] w λev w'=>ev=.returned (.bool false)/\Below w.heap.size w w':=by
 have F1:=χ (γ w.heap.size w) (cB o.1 o.2);have H1:=h.b F1;have q':=θ w #[.int .i64 o.1,.int .i64 o.2] 34;have q0:=q' 0;have q1:=q' 1;simp only[Δ,υ,ω]at q0 q1;have hlk:∀W,Below (w.alloc (cB o.1 o.2)).heap.size (w.alloc (cB o.1 o.2)) W->(Instr.lookup 141 (.map (some F)) (.agg #[.int .i64 o.1,.int .i64 o.2]) true).run prog W=.ok (.tuple #[.agg #[],.bool false]) W:=λW hW=>by
  have:=(H1.m.t.b hW).look hw;rw[show decide ((o.1,o.2)∈P.T)=false by simpa using ho]at this;exact this
 have c3:=H1.m.c3;have hs1:w.heap.size<(w.alloc (cB o.1 o.2)).heap.size:=by simp
 have hpl:=H1.m.tg.lt;have cZ:=I F1;obtain⟨oN,oA⟩:=o;simp only at*;clear h F1 H1 q' ho hw;go_enter func80,ntmps80;go_upto_region 1 with(fail);generalize w.alloc (cB oN oA)=W at*;have Sw:=hlk W.drew (dw W);have Sx:=hlk (W.alloc (.cells #[] 151)).drew (χ (γ _ _) _).drew;clear hlk;go_region
 all_goals (
  have mS:Below W.heap.size W (W.alloc (.cells #[] 151)).drew:=(χ (γ _ _) _).drew;have eA:=I (bW (Z cZ) mS);clear Sw Sx mS q0 q1 c3 cZ hs1 hpl;generalize(W.alloc (.cells #[] 151)).drew=W2 at*;go_wp2_with fail;go_quiet (fail);go_wp2;go_ret;exact⟨rfl,iB (Z eA) _⟩)
end
inductive r7 (C:Dc)(S:Ds)(P:Ps)(x:Int)(o:Bl):Option Nat->Ds->Ps->Prop
 |line (t:Nat) (L:List Nat) (ic:Value) (hL:P.L=t::L):r7 C S P x o none S {P with ab6:=P.ab6++[(t,o)],q:=P.q+1,L:=L,vl:=ic}
 |room (rR:Value) (hL:P.L=[]) (hr:P.R.length<P.most):r7 C S P x o none S {P with R:=P.R++[o],vr:=rR}
 |full (r:Option Nat) (S':Ds) (hL:P.L=[]) (hr:P.most<=P.R.length) (hg:yj C S x o r S'):r7 C S P x o r S' P
theorem r7.T {C:Dc}{S S':Ds}{P P':Ps}{x:Int}{o:Bl}{r:Option Nat}(h:r7 C S P x o r S' P'):P'.T=P.T:=by cases h<;>rfl
structure PI (S:Ds)(P:Ps):Prop where
 most:P.most<=16
 q:P.q<=900000
 ab5:S.ab5<=900000
 tk:P.tk<=900000
 ln:P.L.length<=8
 lt:∀t∈P.L,t<=P.tk/\t∉P.ab6.map (·.1)
 yt:∀t∈P.ab6.map (·.1),t<=P.tk
section
variable {B:Nat}{C:Dc}{ab7:Nat->Prop}{X:Nat->Option Obj}{Y F ym:Nat}{S S':Ds}{P P':Ps}{w w':World}{e:Nat->Addr}
theorem iO {t:Nat}(h:t<=900000):(Lit.int .i64 (t:Int)).wf=true:=by simp[Lit.wf,IntKind.min,IntKind.max,IntKind.signed,IntKind.bits];omega
theorem DM (h:PD B C ab7 X Y F ym S P w)(hN:C.w0.heap.size<=C.N0)(he:dM C.w0 e)(hI:PI S P)(x:Int)(o:Bl):
  Calls prog 81 #[.pointer (some ⟨Y,0,none⟩),.int .i64 x,.agg #[.int .i64 o.1,.int .i64 o.2]] w λev w'=>∃r S' P',ev=.returned (wO e r)/\r7 C S P x o r S' P'/\PD B C ab7 X Y F ym S' P' w'/\PF ab7 P P' w w':=by
 cases hL:P.L with
 |cons t L =>
  have G:=hI.lt t (by rw[hL];simp);refine(yw h hL (iO (σ G.1 hI.tk)) G.2 (by unfold maxLen;have:=hI.q;omega) x o).mono ?_;rintro ev w'⟨rfl,ic,hD,hP⟩;exact⟨none,S,_,rfl,.line t L ic hL,hD,hP⟩
 |nil =>
  by_cases hr:P.R.length<P.most
  ·refine(J6 h hL hr hI.most x o).mono ?_;rintro ev w'⟨rfl,rR,hD,hP⟩;exact⟨none,S,_,rfl,.room rR hL hr,hD,hP⟩
  ·refine(FU h hN he hL (by omega) x o hI.ab5).mono ?_;rintro ev w'⟨r,S',rfl,hG,hD,hP⟩;exact⟨r,S',P,rfl,.full r S' hL (by omega) hG,hD,hP⟩
inductive uH (C:Dc)(S:Ds)(P:Ps)(x:Int)(o:Bl):Option Nat->Ds->Ps->Prop
 |bound (hx:¬(0<=x/\x<S.ws.length)):uH C S P x o (some 1) S P
 |lV (hx:0<=x/\x<S.ws.length) (ho:¬(o∈P.T/\di C S o)):uH C S P x o (some 8) S P
 |no (n:Nat) (S':Ds) (P':Ps) (hx:0<=x/\x<S.ws.length) (ho:o∈P.T) (hi:di C S o) (hp:r7 C S P x o (some n) S' P'):uH C S P x o (some n) S' P'
 |yes (S':Ds) (P':Ps) (hx:0<=x/\x<S.ws.length) (ho:o∈P.T) (hi:di C S o) (hp:r7 C S P x o none S' P'):uH C S P x o none S' {P' with T:=P.T.erase o}
theorem BG (h:PD B C ab7 X Y F ym S P w)(he:dM C.w0 e){x:Int}(hx:¬(0<=x/\x<S.ws.length))(o:Bl):
  Calls prog 19 #[.pointer (some ⟨Y,0,none⟩),.int .i64 x,.agg #[.int .i64 o.1,.int .i64 o.2]] w λev w'=>ev=.returned (bc (e 1))/\Below w.heap.size w w':=by
 have F1:=χ (γ w.heap.size w) (cB o.1 o.2);have kH:=I ((h.b F1).check he x);rw[ai hx]at kH;have cZ:=I F1;obtain⟨oN,oA⟩:=o;unfold bc at*;simp only at*;clear h F1 he hx;go_enter func19,ntmps19;go_upto_region 1 with(fail);generalize w.alloc (cB oN oA)=W at*;go_wp2_with fail;refine(Z kH).mono ?_;rintro ev w1⟨rfl,rfl⟩;go_wp2;go_ret;exact⟨rfl,Z cZ⟩
theorem BI (h:PD B C ab7 X Y F ym S P w)(he:dM C.w0 e){x:Int}(hx:0<=x/\x<S.ws.length){o:Bl}(hw:W2 o.1 o.2)(ho:¬(o∈P.T/\di C S o)):
  Calls prog 19 #[.pointer (some ⟨Y,0,none⟩),.int .i64 x,.agg #[.int .i64 o.1,.int .i64 o.2]] w λev w'=>ev=.returned (bc (e 8))/\Below w.heap.size w w':=by
 have F1:=χ (γ w.heap.size w) (cB o.1 o.2);have q':=θ w #[.int .i64 o.1,.int .i64 o.2] 34;have q0:=q' 0;have q1:=q' 1;simp only[Δ,υ,ω]at q0 q1;have H1:=h.b F1;have kH:=I (H1.check he x);rw[af hx]at kH;have gM:Hid (Calls prog 80 #[.pointer (some ⟨Y,0,none⟩),.agg #[.int .i64 o.1,.int .i64 o.2]] (w.alloc (cB o.1 o.2)) λev w'=>ev=.returned (.bool false)/\Below (w.alloc (cB o.1 o.2)).heap.size (w.alloc (cB o.1 o.2)) w'):=by
  by_cases hm:o∈P.T
  ·exact qK H1 hm false ⟨λh=>(by cases h),λhi=>absurd ⟨hm,hi⟩ ho⟩
  ·exact J7 H1 hw hm
 have cZ:=I F1;have E1:=I ((he.below (DQ.b0 H1.k)));have Tj:=I (DQ.b0 H1.k);have HE:=I he;obtain⟨oN,oA⟩:=o;simp only at*;clear h F1 he hx ho H1 q' hw;go_enter func19,ntmps19;go_upto_region 1 with(fail);generalize w.alloc (cB oN oA)=W at*;go_wp2_with fail;refine(Z kH).mono ?_;rintro ev w1⟨rfl,rfl⟩;go_wp2_with fail;refine(Z gM).mono ?_;rintro ev w2⟨rfl,b2⟩;have v8:=((Z HE).below (bW (Z Tj) b2)).v8;have HB:=I (bW (Z cZ) b2);unfold bc at*;clear gM kH b2 E1;go_wp2;go_ret;exact⟨rfl,Z HB⟩
end
section
variable {B:Nat}{C:Dc}{ab7 V':Nat->Prop}{X:Nat->Option Obj}{Y F ym:Nat}{S S':Ds}{P P':Ps}{w w':World}{e:Nat->Addr}
theorem J8 (h:PD B C ab7 X Y F ym S P w)(hN:C.w0.heap.size<=C.N0)(he:dM C.w0 e)(hI:PI S P){x:Int}(hx:0<=x/\x<S.ws.length){o:Bl}(ho:o∈P.T)(hi:di C S o):
  Calls prog 19 #[.pointer (some ⟨Y,0,none⟩),.int .i64 x,.agg #[.int .i64 o.1,.int .i64 o.2]] w λev w'=>∃r S' P',ev=.returned (wO e r)/\uH C S P x o r S' P'/\PD B C ab7 X Y F ym S' P' w'/\PF ab7 P P' w w':=by
 have F1:=χ (γ w.heap.size w) (cB o.1 o.2);have T1:=bB w #[.int .i64 o.1,.int .i64 o.2] 34;have H1:=h.more F1 (ζ _) T1;have cZ:=I (h.fb F1);have q':=θ w #[.int .i64 o.1,.int .i64 o.2] 34;have q0:=q' 0;have q1:=q' 1;simp only[Δ,υ,ω]at q0 q1;have kH:=I (H1.check he x);rw[af hx]at kH;have gM:=I (qK H1 ho true ⟨λ_=>hi,λ_=>rfl⟩);have WK:=I ho;have KU:Hid (∀W,PD B C (λj=>ab7 j\/j=w.heap.size) X Y F ym S P W->Calls prog 81 #[.pointer (some ⟨Y,0,none⟩),.int .i64 x,.agg #[.int .i64 o.1,.int .i64 o.2]] W λev w'=>∃r S' P',ev=.returned (wO e r)/\r7 C S P x o r S' P'/\PD B C (λj=>ab7 j\/j=w.heap.size) X Y F ym S' P' w'/\PF (λj=>ab7 j\/j=w.heap.size) P P' W w'):=λW hW=>DM hW hN he hI x o;have HV:=I h.uu;have dD:=I H1;have hbl:w.heap.size<(w.alloc (cB o.1 o.2)).heap.size:=by simp
 have IV:=I T1;have HX:=I hx;have HI:=I hi;obtain⟨oN,oA⟩:=o;simp only at*;clear h he hx ho hi F1 T1 H1 q' hI;go_enter func19,ntmps19;go_upto_region 1 with(fail);generalize w.alloc (cB oN oA)=W at*;go_wp2_with fail;refine(Z kH).mono ?_;rintro ev w1⟨rfl,rfl⟩;clear kH;go_wp2_with fail;refine(Z gM).mono ?_;rintro ev w2⟨rfl,b2⟩;have H2:=(Z dD).b b2;have eA:=(Z cZ).trans (((Z dD).fb b2).mono λj E=>ε E);have x0:=(b2.cell (p:=⟨w.heap.size,0,none⟩) hbl).trans q0;have x1:=(b2.cell (p:=⟨w.heap.size,1,none⟩) hbl).trans q1;have zz:=I ((Z KU) w2 H2);have A9:=I eA;have ni:=I ((Z IV).b b2);clear gM dD cZ q0 q1 hbl KU b2 H2 eA IV;go_wp2_with fail;refine(Z zz).mono ?_;rintro ev w3⟨r,S',P',rfl,hA,H3,P3⟩;have hb3:=P3.v w.heap.size (δ rfl);have y0:=(η (a:=⟨w.heap.size,0,none⟩) hb3).trans x0;have y1:=(η (a:=⟨w.heap.size,1,none⟩) hb3).trans x1;have HA:=I hA;have abd:Hid ((oN,oA)∈P'.T):=by
  have:=Z WK;rw[<- hA.T]at this;exact this
 cases r with
 |some n =>
  have fY:=I ((Z A9).trans (P3.mono λj E=>ε E));have eD:=I (H3.less (V':=ab7) λj E=>ε E);unfold wO bc at*;clear hb3 H3 P3 zz A9 ni x0 x1 hA y0 y1;go_wp2;go_ret;exact⟨some n,S',P',rfl,.no n S' P' (Z HX) (Z WK) (Z HI) (Z HA),Z eD,Z fY⟩
 |none =>
  have T3:=(Z ni).blk hb3;obtain⟨w4,pV,H4,P4,K4⟩:=(H3.b (dw w3)).dropped (Z abd) 0;have hdel:∀ty,(Builtin.delete_ #[141,34] ty #[.map (some F),.agg #[.int .i64 oN,.int .i64 oA]]).run prog w3.drew=.ok (.tuple #[]) w4:=λ_=>pV;have c3:=H3.m.c3;have jI:=I (((Z A9).trans (P3.mono λj E=>ε E)).trans ((((H3.fb (dw w3))).mono λj E=>ε E).trans (P4.mono λj E=>ε E)));have Fo:=I (H4.less (V':=ab7) λj E=>ε E);have CH:=I hA.T;unfold wO at*;clear pV H4 P4 K4 H3 P3 hb3 zz A9 ni x0 x1 T3 hA;go_wp2_with fail;go_region
  go_wp2;go_ret;refine⟨none,S',_,rfl,.yes S' P' (Z HX) (Z WK) (Z HI) (Z HA),?_,?_⟩
  ·have:=Z Fo;rw[Z CH]at this;exact this
  ·have:=Z jI;rw[Z CH]at this;exact this
theorem J9 (h:PD B C ab7 X Y F ym S P w)(hN:C.w0.heap.size<=C.N0)(he:dM C.w0 e)(hI:PI S P)(x:Int){o:Bl}(hw:W2 o.1 o.2):
  Calls prog 19 #[.pointer (some ⟨Y,0,none⟩),.int .i64 x,.agg #[.int .i64 o.1,.int .i64 o.2]] w λev w'=>∃r S' P',ev=.returned (wO e r)/\uH C S P x o r S' P'/\PD B C ab7 X Y F ym S' P' w'/\PF ab7 P P' w w':=by
 by_cases hx:0<=x/\x<S.ws.length
 ·by_cases ho:o∈P.T/\di C S o
  ·exact J8 h hN he hI hx ho.1 ho.2
  ·refine(BI h he hx hw ho).mono ?_;rintro ev w'⟨rfl,J⟩;exact⟨some 8,S,P,rfl,.lV hx ho,h.b J,h.fb J⟩
 ·refine(BG h he hx o).mono ?_;rintro ev w'⟨rfl,J⟩;exact⟨some 1,S,P,rfl,.bound hx,h.b J,h.fb J⟩
end
section
def Wt (L:List Nat)(t:Int):Prop:=∃k∈L,(k:Int)=t
end
end Pl
end Go.Proofs.YtcbmfakjfoggaaaGreatDoor
