/- W3 -/
import Derived.Test.YtcbmfakjfoggaaaGreatDoorA0
import Derived.Test.YtcbmfakjfoggaaaGreatDoorW1
import Derived.Test.YtcbmfakjfoggaaaGreatDoorH39
import Derived.Test.YtcbmfakjfoggaaaGreatDoorJ1
import Derived.Test.YtcbmfakjfoggaaaGreatDoorJ4
import Derived.Test.YtcbmfakjfoggaaaGreatDoorJ2
import Derived.Test.YtcbmfakjfoggaaaGreatDoorH26
import Derived.Test.YtcbmfakjfoggaaaGreatDoorH35
import Derived.Test.YtcbmfakjfoggaaaGreatDoorH40
import Derived.Test.YtcbmfakjfoggaaaGreatDoorW2
set_option maxHeartbeats 0
set_option maxRecDepth 100000
namespace Go.Proofs.YtcbmfakjfoggaaaGreatDoor
open _root_.Go.Proofs.Tryz Go.RowKit Go.Maps
namespace Pl
open Fr Bd Zn Dz Sb Mg Rd
section
variable {B:Nat}{C:Dc}{M:Mc}{U U':Nat->Prop}{S S':Ds}{ab5 Q':Rs}{w w':World}{ms aK:Nat}{R R':df}{P P':Ps}
abbrev ASK:List TypeId:=[90,91,93]
theorem RT.kinds (h:RT B w ms aK R){j:Nat}(E:RO ms R j):∃t,Tag w j t/\t∈ASK:=by
 rcases E with rfl|E|E
 ·exact⟨90,h.tg,by simp⟩
 ·exact⟨91,(ay h.row E).1,by simp⟩
 ·obtain⟨i,hi⟩:=List.mem_iff_getElem?.1 E;obtain⟨b,x,e1,e2,e3,e4⟩:=h.at (ν.1 hi).1;rw[hi]at e1;obtain rfl:=ah e1;exact⟨93,e3.tg,by simp⟩
theorem RT.pool {N:Nat}(h:RT B w ms aK R)(hm:jW B w aK M.rd ab5)(hf:fX N aK ab5 Q' U U' w w'):RT B w' ms aK R:=h.keep λj E=>by
 obtain⟨t,ht,hs⟩:=h.kinds E;refine hf.k.blk j ht.lt (λe=>?_);rcases e with e|⟨_,κ,JV,K⟩
 ·obtain⟨t',G,O,_⟩:=hm.kinds e;refine ht.ne G (λq=>?_) rfl;subst q;rcases O with rfl|rfl|rfl|rfl<;>simp at hs
 ·refine ht.ne JV (λq=>?_) rfl;subst q;simp only[ae,aR,dg]at hs;rcases hs with rfl|rfl|rfl<;>revert K<;>decide
theorem RP.Dx {T:Nat->Prop}(h:RP B C M aK U S ab5 w)(D:Kp T w w')(hT:∀b,T b->∃t,Tag w b t/\t∈ASK):RP B C M aK U S ab5 w':=by
 obtain⟨nb,hz⟩:=h.k.rz;have hne:∀b,T b->∀t∈([252,253,38,333,291,140,302,305,4,164,185,32]:List TypeId),¬Tag w b t:=λb J t sB hg=>by
  obtain⟨t',G,O⟩:=hT b J;refine G.ne hg (λe=>?_) rfl;subst e;simp only[ae,aR,dg]at O;rcases O with rfl|rfl|rfl<;>simp at sB
 have hU:∀b,T b->¬U b:=λb J hu=>by
  obtain⟨t',G,O⟩:=hT b J;refine G.ne (h.k.u b hu) (λe=>?_) rfl;subst e;simp at O
 have hn:JW M.rz C.k T w:=h.n.of hz (λb J=>by
  obtain⟨t',G,O⟩:=hT b J;refine δ ⟨t',G,λe=>?_⟩;subst e;simp at O)
 have hs:eh [252,38] w w':=λb t sB hg=>D.blk b hg.lt (λJ=>hne b J t ((by decide:∀t∈([252,38]:List TypeId),t∈([252,253,38,333,291,140,302,305,4,164,185,32]:List TypeId)) t sB) hg);refine⟨h.k.iV D hne hU hn (λ_ h=>h) (λ_ h=>ε h),h.m.keep (λb J=>D.blk b (h.m.lt J).1 (λe=>?_)),h.d,h.n.keep hz hs (λ_ h=>ε h),σ h.lo.1 D.size,σ h.lo.2 D.size⟩;obtain⟨t,G,O,_⟩:=h.m.kinds J;obtain⟨t',h3,h4⟩:=hT b e;refine G.ne h3 (λq=>?_) rfl;subst q;rcases O with rfl|rfl|rfl|rfl<;>simp at h4
structure RS (B:Nat)(C:Dc)(M:Mc)(ms aK:Nat)(U:Nat->Prop)(S:Ds)(ab5:Rs)(R:df)(w:World):Prop where
 r:RP B C M aK U S ab5 w
 t:RT B w ms aK R
theorem RS.b (h:RS B C M ms aK U S ab5 R w)(J:Below w.heap.size w w'):RS B C M ms aK U S ab5 R w':=⟨h.r.b J,h.t.b J⟩
theorem RS.pool (h:RS B C M ms aK U S ab5 R w)(hr:RP B C M aK U' S' Q' w')(hf:fX C.N0 aK ab5 Q' U U' w w'):RS B C M ms aK U' S' Q' R w':=⟨hr,h.t.pool h.r.m hf⟩
theorem RS.own {T:Nat->Prop}(h:RS B C M ms aK U S ab5 R w)(ht:RT B w' ms aK R')(D:Kp T w w')(hT:∀b,T b->∃t,Tag w b t/\t∈ASK):RS B C M ms aK U S ab5 R' w':=⟨h.r.Dx D hT,ht⟩
theorem RT.fr (h:RT B w ms aK R)(hf:FR P P' w w'):RT B w' ms aK R:=h.keep λj E=>by
 obtain⟨t,ht,hs⟩:=h.kinds E;exact hf.s j t ((by decide:∀t∈ASK,t∈jP) t hs) ht
theorem RT.lg {T:Nat->Prop}(h:RT B w ms aK R)(D:Kp T w w')(hT:∀b,T b->RO ms R b){ts:List TypeId}(hn:∀t∈ASK,t∉ts):eh ts w w':=λb t hm ht=>D.blk b ht.lt λe=>by
 obtain⟨t',G,O⟩:=h.kinds (hT b e);exact G.ne ht (λq=>hn t' O (q▸hm)) rfl
end
end Pl
namespace Pl
open Fr Bd Zn Dz Sb Mg
section
variable {B:Nat}{C:Dc}{ab7:Nat->Prop}{X X':Nat->Option Obj}{Y F ym m s:Nat}{S S':Ds}{P P':Ps}{w w':World}{ax:cu}{e:Nat->Addr}
theorem Cv (h:bR B C ab7 X Y F ym S P s m ax w)(hN:C.w0.heap.size<=C.N0)(he:dM C.w0 e)(hI:PI S P){t:Int}(ht:(Lit.int .i64 t).wf=true){b:Nat}(hf:ax.f t=some b){x:Int}(hx:0<=x/\x<ax.ws)(hn:(ax.g b).n=1)(hw2:W2 (ax.g b).o.1 (ax.g b).o.2):
  Calls prog 42 #[.pointer (some ⟨s,0,none⟩),.int .i64 x,.int .i64 t] w λev w'=>ev=.returned .nilIface/\∃(r:Option Nat) (S':Ds) (P':Ps) (X':Nat->Option Obj),uH C S P x (ax.g b).o r S' P'/\eU ab7 P P' w w'/\bR B C ab7 X' Y F ym S' P' s m {ax with f:=mE ax.f t none,n:=ax.n-1} w':=by
 obtain⟨k1,k2,k3,_⟩:=h.k.k t b hf;have c3:=h.k.c3;have c1:=h.k.c1;have c0:=h.k.c0;have hl:=h.k.bq.look ht;have b3:=k1.c3;have b0:=k1.c0;have b1:=k1.c1;have f3:=k1.fz 3;have d1:decide (x<0)=false:=by simp;omega
 have d2:decide (x>=(ax.ws:Int))=false:=by simp;omega
 have d3:decide ((ax.ws:Int)<=x)=false:=by simp;omega
 rw[hn]at b3;rw[hf]at hl;obtain⟨ko,CJ,GG⟩:=h.k.bq.aQ;have Il:s≠b:=h.k.tg.ne k1.tg (by decide);have hmb:m≠b:=λq=>aj CJ GG k1.tg q;have hs1:∀j,j≠b->(w.setCell ⟨b,3,none⟩ (.int .i64 0)).heap[j]?=w.heap[j]?:=λj E=>μ _ _ _ _ E;have D1:=h.d.Dx (w':=w.setCell ⟨b,3,none⟩ (.int .i64 0)) (Kp.set w b 3 (.int .i64 0) ⟨σ h.d.hB k2,ε ⟨192,k1.tg,by decide⟩⟩) ⟨ko,h.x.trans CJ⟩ ⟨ko,(hs1 m hmb).trans CJ,GG⟩;have hX1:gM X m (w.setCell ⟨b,3,none⟩ (.int .i64 0)) m=(w.setCell ⟨b,3,none⟩ (.int .i64 0)).heap[m]?:=by unfold gM;rw[af rfl]
 have z3:(w.setCell ⟨b,3,none⟩ (.int .i64 0)).cell? ⟨b,3,none⟩=some (.int .i64 0):=fK b3;have z0:(w.setCell ⟨b,3,none⟩ (.int .i64 0)).cell? ⟨b,0,none⟩=some (.int .i64 (ax.g b).o.1):=(bu (by simp)).trans b0;have z1:(w.setCell ⟨b,3,none⟩ (.int .i64 0)).cell? ⟨b,1,none⟩=some (.int .i64 (ax.g b).o.2):=(bu (by simp)).trans b1;have y0:(w.setCell ⟨b,3,none⟩ (.int .i64 0)).cell? ⟨s,0,none⟩=some (.pointer (some ⟨Y,0,none⟩)):=(bu (by simp)).trans c0;have y3:(w.setCell ⟨b,3,none⟩ (.int .i64 0)).cell? ⟨s,3,none⟩=some (.map (some m)):=(bu (by simp)).trans c3;have Jr:∀j,ab7 j->Tag w j 34:=λj E=>h.d.iH j E;have Js:eU ab7 P P w (w.setCell ⟨b,3,none⟩ (.int .i64 0)):=eU.own (N:=C.w0.heap.size) (Kp.set w b 3 (.int .i64 0) ⟨σ h.d.hB k2,ε ⟨192,k1.tg,by decide⟩⟩) h.k.bq.aQ Jr;have uC:=I (J9 (D1.b (dw _)) hN he hI x hw2);have Es:Hid (∀(r:Option Nat) (S':Ds) (P':Ps) (W:World),PD B C ab7 (gM X m (w.setCell ⟨b,3,none⟩ (.int .i64 0))) Y F ym S' P' W->PF ab7 P P' (w.setCell ⟨b,3,none⟩ (.int .i64 0)).drew W->W.cell? ⟨s,3,none⟩=some (.map (some m))/\∃W',(∀ty,(Builtin.delete_ #[187,3] ty #[.map (some m),.int .i64 t]).run prog W=.ok (.tuple #[]) W')/\eU ab7 P P' w W'/\∃X',bR B C ab7 X' Y F ym S' P' s m {ax with f:=mE ax.f t none,n:=ax.n-1} W'):=by
  intro r S' P' W hD hF;have Jv:W.heap[m]?=w.heap[m]?:=wL h.k (hX1.trans ((dw _).block m (Array.getElem?_eq_some_iff.mp ((hs1 m hmb).trans CJ)).1).symm) (((dw _).block m (Array.getElem?_eq_some_iff.mp ((hs1 m hmb).trans CJ)).1).trans (hs1 m hmb)) hD (D1.b (dw _)) hF;have hblk:∀j κ,Tag w j κ->κ∈Ug->j≠b->W.heap[j]?=w.heap[j]?:=λj κ E hm hne=>by
   have e1:=hs1 j hne;have e2:(w.setCell ⟨b,3,none⟩ (.int .i64 0)).drew.heap[j]?=w.heap[j]?:=((dw _).block j (E.blk e1).lt).trans e1;exact(hF.s j κ hm (E.blk e2)).trans e2
  have MK:=hblk s 189 h.k.tg (by decide) Il;obtain⟨W',hr,Pp,hkp⟩:=(h.k.bq.blk Jv).drop ht (by rw[hf];rfl) 0;obtain⟨o2,e3,e4⟩:=(h.k.bq.blk Jv).aQ;have hW':∀j κ,Tag W j κ->W'.heap[j]?=W.heap[j]?:=λj κ E=>hkp.block j E.lt (λq=>aj e3 e4 E q.symm) (λq=>aj e3 e4 E q.symm);have hZ:=h.k.gone hf Pp ((hW' s _ (h.k.tg.blk MK)).trans MK) (λt' b' hne hfb=>by
   obtain⟨q1,_⟩:=h.k.k t' b' hfb;have LP:b'≠b:=λq=>hne (h.k.inj t' t b (q▸hfb) hf);have a1:=hblk b' 192 q1.tg (by decide) LP;have a2:=hblk (ax.g b').q 5 q1.rt (by decide) (λq=>q1.rt.ne k1.tg (by decide) q);exact⟨(hW' _ _ (q1.tg.blk a1)).trans a1,(hW' _ _ (q1.rt.blk a2)).trans a2⟩)
  obtain⟨o3,e5,e6⟩:=hZ.bq.aQ;have Kk:gM X m (w.setCell ⟨b,3,none⟩ (.int .i64 0)) m=some ko:=hX1.trans ((hs1 m hmb).trans CJ);refine⟨(η (a:=⟨s,3,none⟩) MK).trans c3,W',λty=>hr,((Js.trans (eU.below (P:=P) (λj E=>((Jr j E).set _ _).lt) (dw _))).trans hF.fv).trans (eU.own (N:=C.w0.heap.size) (Kp.kept hkp ⟨σ h.d.hB h.k.ge.2,δ rfl⟩ ⟨σ h.d.hB h.k.ge.2,δ rfl⟩) ⟨o2,e3,e4⟩ (λj E=>hD.iH j E)),_,hD.Dx (Kp.kept hkp ⟨σ h.d.hB h.k.ge.2,δ rfl⟩ ⟨σ h.d.hB h.k.ge.2,δ rfl⟩) ⟨ko,Kk⟩ ⟨o3,e5,e6⟩,hZ,by unfold gM;rw[af rfl]⟩
 clear Js h D1 hX1 k1 k2 k3 hx hn he hI hs1 CJ GG hmb Il c0 b0 b1 hf hw2;unfold L8 at*;go_enter func42,ntmps42;go_upto_region 8 with(fail);generalize w.setCell ⟨b,3,none⟩ (.int .i64 0)=W1 at*;go_wp2_with fail;go_region_with ((go_at_call 19;refine(Z uC).mono ?_;rintro ev w5⟨r,S',P',rfl,hG,D5,F5⟩));all_goals
  obtain⟨q3,W',hdel,oH,X',hSP⟩:=(Z Es) r S' P' w5 D5 F5;have Dg:=I oH;have HSP:=I hSP;have HG:=I hG;clear oH uC Es hG D5 F5 hSP y0 y3 z0 z1 z3;go_wp2_with (at_delete;refine jJ _ rfl _ _ 187 3 rfl rfl rfl (hdel _) ?_);go_ret;exact⟨rfl,r,S',P',X',Z HG,Z Dg,Z HSP⟩
end
open Rd
section
variable {B:Nat}{C:Dc}{M:Mc}{ab7:Nat->Prop}{Y F ym aK s m:Nat}{U ab4 T:Nat->Prop}{X:Nat->Option Obj}{S S' S0:Ds}{P P':Ps}{R:Rs}{w w':World}
theorem PQ.Kl {X':Nat->Option Obj}(h:PQ B C M Y F ym aK U ab4 X S S0 P R w)(hp:PD B C (λj=>(U j\/OB R.vR j\/OB R.vT j)\/ab4 j) X' Y F ym S' P' w')(hf:eU (λj=>(U j\/OB R.vR j\/OB R.vT j)\/ab4 j) P P' w w'):PQ B C M Y F ym aK U ab4 X' S' S0 P' R w':=by
 obtain⟨nb,hz⟩:=h.r.k.rz;have hs:∀ts:List TypeId,(∀t∈ts,t∈jP)->eh ts w w':=λts h' b t hm ht=>hf.f.s b t (h' t hm) ht;have hl:∀j,OB R.vL j->w'.heap[j]?=w.heap[j]?:=λj E=>hf.f.l j (ay h.r.m.l E).1 (h.d3 j E);have hm:jW B w' aK M.rd R:=h.r.m.keep λb J=>by
  rcases J with rfl|J|J|J|J
  ·exact hf.f.s b 64 (by simp) h.r.m.tg
  ·exact hf.v b (ε (δ (ε J)))
  ·exact hf.v b (ε (δ (δ J)))
  ·exact hl b J
  ·exact hf.f.s b 167 (by simp) (ay h.r.m.y J).1
 have hK:AD C M U S0 w':=by
  obtain⟨rb,rt,jd,hr⟩:=h.r.k.r;have hs2:=hs [252,253,38,333,291] (by decide);have hz':RZ w' M.rz C.mn C.lw C.hi C.k jd S0.V C.fr:=by
   have G:=hr.hz;have cl:=λj=>bN hs2 (by simp) G.tg j;obtain⟨g,c,e1,o1⟩:=G.cn;obtain⟨g2,c2,rows,e2,o2,r2⟩:=G.cf;refine⟨(cl 2).trans G.m2,(cl 3).trans G.m3,(cl 4).trans G.m4,⟨g,c,(cl 5).trans e1,bK o1 hs2 (by simp)⟩,⟨g2,c2,rows,(cl 6).trans e2,bK o2 hs2 (by simp),λi hi=>?_⟩,cY hs2 (by simp) G.tg,λi hi=>oo (G.rb i hi) (hs [291] (by decide)) (hs2 _ 333 (by simp) (G.rb i hi).tg) hf.f.z,G.ok,G.ne⟩;obtain⟨h',d,e3,o3⟩:=r2 i hi;refine⟨h',d,e3,aI o3 (λb J=>?_)⟩;obtain rfl:h'=b:=by simpa[Value.ownBlock]using J
   exact hf.f.l h' (fV o3) (h.n3 g2 c2 i h' _ d e2 ((o2.cellAt i (by omega)).trans e3) hi)
  exact⟨⟨rb,rt,jd,hz',hr.K.same (hs _ (by decide)),hr.g,λg cp e=>hr.r g cp ((η (w:=w) (a:=⟨M.rz,5,none⟩) (hs2 M.rz 252 (by simp) hr.hz.tg)).symm.trans e)⟩,h.r.k.d.keep (λk D=>hf.v k (ε (ε D))) (hs _ (by decide)) hf.f.z (λ_ h=>h),λk D=>(h.r.k.u k D).blk (hf.v k (ε (ε D)))⟩
 refine⟨hp,⟨hK,hm,h.r.d,h.r.n.keep hz (hs _ (by decide)) (λ_ h=>ε h),σ h.r.lo.1 hf.f.z,σ h.r.lo.2 hf.f.z⟩,h.o,?_,h.n3.keep hz (hs _ (by decide)) hf.f.l',λj E e=>?_⟩
 ·exact h.n1.keep h.p.k.dz (hs [241,38] (by decide)) (λ_ h=>ε h)
 ·rcases hf.f.l' j e with e|e
  ·exact h.d3 j E e
  ·have:=(ay h.r.m.l E).1.lt;omega
theorem PD.xJ (h:PD B C ab7 X Y F ym S P w)(D:Kp T w w')(hT:∀b,T b->(∃t,Tag w b t/\t∈ASK)/\C.w0.heap.size<=b):PD B C ab7 X Y F ym S P w':=by
 have hs:∀j,j<w.heap.size->¬T j->w'.heap[j]?=w.heap[j]?:=λj E hn=>D.blk j E hn;have hnt:∀b κ,Tag w b κ->κ∉ASK->¬T b:=λb κ J hn ht=>by
  obtain⟨⟨t,G,O⟩,_⟩:=hT b ht;exact J.ne G (λe=>hn (e▸O)) rfl
 have VN:∀b o,w.heap[b]?=some o->kind o=none->¬T b:=λb o e1 e2 ht=>by
  obtain⟨⟨t,G,O⟩,_⟩:=hT b ht;exact aj e1 e2 G rfl
 have wN:∀b,PB Y F ym P b->¬T b:=λb J=>by
  rcases J with rfl|rfl|rfl|J|J
  ·exact hnt _ _ h.m.tg (by decide)
  ·obtain⟨o,e1,e2⟩:=h.m.t.aQ;exact VN _ _ e1 e2
  ·obtain⟨o,e1,e2⟩:=h.m.y.aQ;exact VN _ _ e1 e2
  ·exact hnt _ _ (ay h.m.r J).1 (by decide)
  ·exact hnt _ _ (ay h.m.l J).1 (by decide)
 have e:=kG (X:=X) (hs F h.m.t.lt (wN F (δ (ε rfl)))) (hs ym h.m.y.lt (wN ym (δ (δ (ε rfl)))));have hK:DK C (λj=>ab7 j\/OB P.vr j) (X2 F ym X w) S w':=by
  refine h.k.iV D ?_ (λb J=>(hT b J).2) (λb J=>?_) (λb o e=>?_) (λj E=>?_)
  ·rintro g c i h' d e1 e2 hi J;obtain⟨g2,c2,rows,e3,o2,r2⟩:=h.k.dz.cf;rw[e3]at e1;simp only[τ,ψ,av,bI,aZ]at e1;obtain⟨rfl,rfl⟩:=e1;obtain⟨O,d2,e4,o3⟩:=r2 i hi;rw[(o2.cellAt i (by omega)).trans e4]at e2;simp only[τ,ψ,av,bI,aZ]at e2;obtain⟨rfl,rfl⟩:=e2;exact hnt _ _ (fV o3) (by decide) J
  ·obtain⟨⟨t,G,O⟩,_⟩:=hT b J;refine δ (δ ⟨t,G,?_,?_⟩)
   ·rintro rfl;revert O;decide
   ·exact(by decide:∀t∈ASK,t∉Si) t O
  ·obtain⟨e1,e2⟩:=h.k.map e;exact⟨(hs b (Array.getElem?_eq_some_iff.mp e1).1 (VN _ _ e1 e2)).trans e1,e2,ε ⟨o,e⟩⟩
  ·have hj':=DQ.uk h.k j E;exact⟨hj'.blk (hs j hj'.lt (hnt _ _ hj' (by decide))),ε E⟩
 exact⟨by rw[e];exact hK,h.m.keep λb J=>hs b (h.m.lt J).1 (wN b J),h.nr.keep h.k.dz (λc t' hm K=>hs c K.lt (hnt _ _ K (by simp at hm;rcases hm with rfl|rfl<;>decide))) (λj E=>ε E),h.dj,h.xt,h.hB⟩
end
section
variable {B:Nat}{C:Dc}{M:Mc}{Y F ym aK s m ms:Nat}{U U' ab4 T:Nat->Prop}{X X':Nat->Option Obj}{S S' S0 S1:Ds}{P P':Ps}{ab5 Q':Rs}{ax Z':cu}{R R':df}{w w':World}
theorem bg.far (h:bg B w s Y m ax){j:Nat}(E:SO s m ax j):(∃t,Tag w j t/\t∈([189,192,5]:List TypeId))\/∃o,w.heap[j]?=some o/\kind o=none:=by
 rcases E with rfl|rfl|⟨t,e⟩|⟨t,b,e,rfl⟩
 ·exact ε ⟨189,h.tg,by simp⟩
 ·exact δ h.bq.aQ
 ·exact ε ⟨192,(h.k t j e).1.tg,by simp⟩
 ·exact ε ⟨5,(h.k t b e).1.rt,by simp⟩
structure az (B:Nat)(C:Dc)(M:Mc)(Y F ym aK s m ms:Nat)(U ab4:Nat->Prop)(X:Nat->Option Obj)(S S0:Ds)(P:Ps)(ab5:Rs)(ax:cu)(R:df)(w:World):Prop where
 q:PQ B C M Y F ym aK U ab4 X S S0 P ab5 w
 k:bg B w s Y m ax
 x:X m=w.heap[m]?
 t:RT B w ms aK R
theorem az.b (h:az B C M Y F ym aK s m ms U ab4 X S S0 P ab5 ax R w)(J:Below w.heap.size w w'):az B C M Y F ym aK s m ms U ab4 X S S0 P ab5 ax R w':=⟨h.q.b J,h.k.b J,h.x.trans (J.block m h.k.bq.lt).symm,h.t.b J⟩
theorem az.sp (h:az B C M Y F ym aK s m ms U ab4 X S S0 P ab5 ax R w):bR B C (λj=>(U j\/OB ab5.vR j\/OB ab5.vT j)\/ab4 j) X Y F ym S P s m ax w:=⟨h.q.p,h.k,h.x⟩
theorem az.rs (h:az B C M Y F ym aK s m ms U ab4 X S S0 P ab5 ax R w):RS B C M ms aK U S0 ab5 R w:=⟨h.q.r,h.t⟩
theorem az.pgr (h:az B C M Y F ym aK s m ms U ab4 X S S0 P ab5 ax R w)(hp:bR B C (λj=>(U j\/OB ab5.vR j\/OB ab5.vT j)\/ab4 j) X' Y F ym S' P' s m Z' w')(hf:eU (λj=>(U j\/OB ab5.vR j\/OB ab5.vT j)\/ab4 j) P P' w w'):az B C M Y F ym aK s m ms U ab4 X' S' S0 P' ab5 Z' R w':=⟨h.q.Kl hp.d hf,hp.k,hp.x,h.t.fr hf.f⟩
theorem az.ref (h:az B C M Y F ym aK s m ms U ab4 X S S0 P ab5 ax R w)(hN:C.w0.heap.size<=C.N0)(hr:RP B C M aK U' S1 Q' w')(hf:fX C.N0 aK ab5 Q' U U' w w'):az B C M Y F ym aK s m ms U' ab4 X S S1 P Q' ax R w':=by
 have D:∀j,SO s m ax j->w'.heap[j]?=w.heap[j]?:=λj E=>by
  refine hf.k.blk j (h.k.lt E).1 (λe=>?_);have hne:∀κ,Tag w j κ->κ∈([189,192,5]:List TypeId):=λκ JV=>by
   rcases h.k.far E with⟨t,G,O⟩|⟨o,e1,e2⟩
   ·by_cases q:t = κ
    ·exact q▸O
    ·exact(G.ne JV q rfl).elim
   ·exact(aj e1 e2 JV rfl).elim
  rcases e with e|⟨_,κ,JV,K⟩
  ·obtain⟨t',G,O,_⟩:=h.q.r.m.kinds e;have:=hne t' G;rcases O with rfl|rfl|rfl|rfl<;>simp at this
  ·have:=hne κ JV;simp only[ae,aR,dg]at this;rcases this with rfl|rfl|rfl<;>revert K<;>decide
 exact⟨h.q.ref hN hr hf,h.k.keep D,h.x.trans (D m (δ (ε rfl))).symm,h.t.pool h.q.r.m hf⟩
theorem az.xJ (h:az B C M Y F ym aK s m ms U ab4 X S S0 P ab5 ax R w)(D:Kp T w w')(hT:∀b,T b->∃t,Tag w b t/\t∈ASK)(hB:∀b,T b->B<=b)(ht:RT B w' ms aK R'):az B C M Y F ym aK s m ms U ab4 X S S0 P ab5 ax R' w':=by
 obtain⟨nb,hz⟩:=h.q.r.k.rz;have hne:∀b,T b->∀κ,Tag w b κ->κ∈ASK:=λb J κ JV=>by
  obtain⟨t,G,O⟩:=hT b J;by_cases q:t = κ
  ·exact q▸O
  ·exact(G.ne JV q rfl).elim
 have hs:∀ts:List TypeId,(∀t∈ts,t∉ASK)->eh ts w w':=λts hn b t hm hg=>D.blk b hg.lt (λJ=>hn t hm (hne b J t hg));have hm:∀j,SO s m ax j->w'.heap[j]?=w.heap[j]?:=λj E=>D.blk j (h.k.lt E).1 (λe=>by
  rcases h.k.far E with⟨t,G,O⟩|⟨o,e1,e2⟩
  ·have:=hne j e t G;simp only[ae,aR,dg]at O;rcases O with rfl|rfl|rfl<;>revert this<;>decide
  ·obtain⟨t,G,_⟩:=hT j e;exact aj e1 e2 G rfl)
 refine⟨⟨h.q.p.xJ D (λb J=>⟨hT b J,σ h.q.p.hB (hB b J)⟩),h.q.r.Dx D hT,h.q.o,h.q.n1.keep h.q.p.k.dz (hs [241,38] (by decide)) (λ_ h=>ε h),h.q.n3.keep hz (hs [252,38] (by decide)) (λ_ h=>ε h),h.q.d3⟩,h.k.keep hm,h.x.trans (hm m (δ (ε rfl))).symm,ht⟩
end
structure gP (ax:cu)(R:df):Prop where
 last:ax.last=R.last
 sz:ax.sz=R.sz
 no:∀t,ax.f t=none->∀x∈R.ab2,(x.id:Int)≠t
 yes:∀t b,ax.f t=some b->∃(i:Nat) (x:gy),R.ab2[i]?=some x/\(x.id:Int)=t/\(ax.g b).o=x.o/\(ax.g b).l=x.l/\(ax.g b).n=x.n
 n:ax.n=R.ab2.length
section
variable {ax:cu}{R:df}{t:Int}{b i:Nat}{x x':gy}{y:Bs}{B Y F ym aK s m ms:Nat}{C:Dc}{M:Mc}{U ab4:Nat->Prop}{X:Nat->Option Obj}{S S0:Ds}{P:Ps}{ab5:Rs}{Z':cu}{R':df}{w w':World}
def Once (R:df):Prop:=∀(i j:Nat) (x y:gy),R.ab2[i]?=some x->R.ab2[j]?=some y->x.id=y.id->i=j
theorem gP.same (h:gP ax R)(hu:Once R)(hf:ax.f t=some b)(e2:R.ab2[i]?=some x)(e3:(x.id:Int)=t):(ax.g b).o=x.o/\(ax.g b).l=x.l/\(ax.g b).n=x.n:=by
 obtain⟨j,y,a1,a2,a3⟩:=h.yes t b hf;obtain rfl:=hu i j x y e2 a1 (by omega);rw[e2]at a1;obtain rfl:=ah a1;exact a3
theorem gP.one (h:gP ax R)(e2:R.ab2[i]?=some x)(e3:(x.id:Int)=t):∃b,ax.f t=some b:=by
 cases hf:ax.f t with
 |none=>exact(h.no t hf x (aH e2) e3).elim
 |some b=>exact⟨b,rfl⟩
theorem gP.set (h:gP ax R)(hinj:∀t t' b,ax.f t=some b->ax.f t'=some b->t=t')(_hu:Once R)(hf:ax.f t=some b)(e2:R.ab2[i]?=some x)(e3:(x.id:Int)=t)(hid:x'.id=x.id)(ho:y.o=x'.o)(hl:y.l=x'.l)(hn:y.n=x'.n):gP {ax with g:=ma ax.g b y} {R with ab2:=R.ab2.set i x'}:=by
 have hi:=(ν.1 e2).1;refine⟨h.last,h.sz,λt' hf' z hz=>?_,λt' b' hf'=>?_,?_⟩
 ·rcases gK hz with hz|rfl
  ·exact h.no t' hf' z hz
  ·rw[hid,e3];rintro rfl;have hf':ax.f t=none:=hf';rw[hf]at hf';cases hf'
 ·by_cases J:b'=b
  ·subst J;obtain rfl:=hinj t' t b' hf' hf;refine⟨i,x',by rw[aP hi],by rw[hid];exact e3,?_⟩;show(ma ax.g b' y b').o=x'.o/\(ma ax.g b' y b').l=x'.l/\(ma ax.g b' y b').n=x'.n;rw[lU];exact⟨ho,hl,hn⟩
  ·obtain⟨j,z,a1,a2,a3⟩:=h.yes t' b' hf';have Ec:i≠j:=λq=>by
    subst q;rw[e2]at a1;obtain rfl:=ah a1;obtain rfl:t=t':=by omega
    have hf':ax.f t=some b':=hf';rw[hf]at hf';exact J (ah hf').symm
   refine⟨j,z,by rw[cL Ec];exact a1,a2,?_⟩;show(ma ax.g b y b').o=z.o/\(ma ax.g b y b').l=z.l/\(ma ax.g b y b').n=z.n;rw[lF J];exact a3
 ·show ax.n=(R.ab2.set i x').length;rw[dp];exact h.n
theorem gP.add (h:gP ax R)(J:∀t,ax.f t≠some b)(_hle:∀x∈R.ab2,x.id<=R.last){v':Value}{pD:List Nat}{q:Nat}(hid:x'.id=R.last+1)(ho:y.o=x'.o)(hl:y.l=x'.l)(hn:y.n=x'.n):gP {ax with last:=ax.last+1,q:=q,n:=ax.n+1,f:=mE ax.f ((ax.last:Int)+1) (some b),g:=ma ax.g b y} {R with last:=R.last+1,v:=v',bs:=pD,ab2:=R.ab2++[x']}:=by
 have hlast:=h.last;refine⟨by show ax.last+1=R.last+1;omega,h.sz,λt' hf' z hz=>?_,λt' b' hf'=>?_,?_⟩
 ·have hf':mE ax.f ((ax.last:Int)+1) (some b) t'=none:=hf';unfold mE at hf';split at hf'
  ·cases hf'
  ·rename_i hne;rcases aC.1 hz with hz|hz
   ·exact h.no t' hf' z hz
   ·simp at hz;subst hz;rw[hid];intro q;apply hne;omega
 ·have hf':mE ax.f ((ax.last:Int)+1) (some b) t'=some b':=hf';unfold mE at hf';split at hf'
  ·rename_i he;obtain rfl:=ah hf';refine⟨R.ab2.length,x',by simp,by rw[hid];omega,?_⟩;show(ma ax.g b y b).o=x'.o/\(ma ax.g b y b).l=x'.l/\(ma ax.g b y b).n=x'.n;rw[lU];exact⟨ho,hl,hn⟩
  ·obtain⟨j,z,a1,a2,a3⟩:=h.yes t' b' hf';refine⟨j,z,by rw[ar (ν.1 a1).1];exact a1,a2,?_⟩;show(ma ax.g b y b').o=z.o/\(ma ax.g b y b').l=z.l/\(ma ax.g b y b').n=z.n;rw[lF (λ(q:b'=b)=>J t' (by rw[<- q];exact hf'))];exact a3
 ·show ax.n+1=(R.ab2++[x']).length;rw[φ,h.n];rfl
theorem gP.del (h:gP ax R)(hu:Once R)(hf:ax.f t=some b)(e2:R.ab2[i]?=some x)(e3:(x.id:Int)=t){v':Value}{pD:List Nat}:gP {ax with f:=mE ax.f t none,n:=ax.n-1} {R with v:=v',bs:=pD,ab2:=R.ab2.eraseIdx i}:=by
 have hi:=(ν.1 e2).1;refine⟨h.last,h.sz,λt' hf' z hz=>?_,λt' b' hf'=>?_,?_⟩
 ·have hf':mE ax.f t none t'=none:=hf';unfold mE at hf';split at hf'
  ·rename_i he;subst he;intro q;obtain⟨j,E⟩:=List.mem_iff_getElem?.1 hz;have E:(R.ab2.eraseIdx i)[j]?=some z:=E;rw[List.getElem?_eraseIdx]at E;split at E
   ·rename_i hji;have:=hu j i z x E e2 (by omega);omega
   ·rename_i hji;have:=hu (j+1) i z x E e2 (by omega);omega
  ·exact h.no t' hf' z (List.Sublist.subset (List.eraseIdx_sublist _ _) hz)
 ·have hf':mE ax.f t none t'=some b':=hf';unfold mE at hf';split at hf'
  ·cases hf'
  ·rename_i hne;obtain⟨j,z,a1,a2,a3⟩:=h.yes t' b' hf';have Ec:j≠i:=λq=>by
    subst q;rw[e2]at a1;obtain rfl:=ah a1;omega
   by_cases hlt:j<i
   ·exact⟨j,z,by show(R.ab2.eraseIdx i)[j]?=_;rw[List.getElem?_eraseIdx,af hlt];exact a1,a2,a3⟩
   ·refine⟨j-1,z,?_,a2,a3⟩;show(R.ab2.eraseIdx i)[j-1]?=_;rw[List.getElem?_eraseIdx,ai (by omega),show j-1+1=j from by omega];exact a1
 ·show ax.n-1=(R.ab2.eraseIdx i).length;rw[List.length_eraseIdx,af hi,h.n]
theorem az.own (h:az B C M Y F ym aK s m ms U ab4 X S S0 P ab5 ax R w)(D:Kp (qa C.w0.heap.size m w) w w')(hZ:bg B w' s Y m Z'):az B C M Y F ym aK s m ms U ab4 (gM X m w') S S0 P ab5 Z' R w':=h.pgr (h.sp.own D hZ) (eU.own D h.k.bq.aQ (λj E=>h.q.p.iH j E))
theorem az.once (h:az B C M Y F ym aK s m ms U ab4 X S S0 P ab5 ax R w):Once R:=λ_ _ _ _ e1 e2 hid=>h.t.uniq e1 e2 hid
theorem az.row (h:az B C M Y F ym aK s m ms U ab4 X S S0 P ab5 ax R w)(E:gP ax R)(hf:ax.f t=some b):∃(i c:Nat) (x:gy),R.bs[i]?=some c/\R.ab2[i]?=some x/\(x.id:Int)=t/\(ax.g b).o=x.o/\(ax.g b).l=x.l/\(ax.g b).n=x.n:=by
 obtain⟨i,x,a1,a2,a3⟩:=E.yes t b hf;have hi:=(ν.1 a1).1;rw[h.t.len]at hi;exact⟨i,_,x,ξ hi,a1,a2,a3⟩
theorem az.gone (_h:az B C M Y F ym aK s m ms U ab4 X S S0 P ab5 ax R w)(E:gP ax R)(hf:ax.f t=none):mR R t=none:=wP (E.no t hf)
theorem az.uJ (h:az B C M Y F ym aK s m ms U ab4 X S S0 P ab5 ax R w)(D:Kp (λj=>j∈R.bs) w w')(ht:RT B w' ms aK R'):az B C M Y F ym aK s m ms U ab4 X S S0 P ab5 ax R' w' :=
 h.xJ D (λ_ J=>h.t.kinds (δ (δ J))) (λ_ J=>(h.t.lt (δ (δ J))).2) ht
end
theorem LF.refl (ab4:Nat->Prop)(w:World):LF ab4 w w:=⟨λ_ _=>rfl,λ_ _ _ _=>rfl,ζ _⟩
theorem LF.trans {ab4:Nat->Prop}{w w1 w2:World}(h:LF ab4 w w1)(k:LF ab4 w1 w2):LF ab4 w w2:=⟨λj E=>(k.o j E).trans (h.o j E),rJ h.s k.s,σ h.z k.z⟩
structure iI (C:Dc)(S:Ds)(P:Ps)(ab5:Rs)(ax:cu)(R:df)(z n:Nat):Prop where
 j:PJ C S P ab5 n
 ws:S.ws.length=2
 gp:gP ax R
 L:P.L=[]
 ab6:P.ab6=[]
 q:ax.q<=n
 last:ax.last<=n
 cnt:ax.n<=n
 jw:ax.ws=2
 sz:ax.sz=z
 w2:∀t b,ax.f t=some b->W2 (ax.g b).o.1 (ax.g b).o.2
structure gN where
 p:Px
 s:Nat
 m:Nat
 ms:Nat
 z:Nat
abbrev l_:Nat->Prop:=λ_=>False
def lZ (x:gN)(n:Nat)(w:World):Prop:=∃(X:Nat->Option Obj) (F ym:Nat) (U:Nat->Prop) (S:Ds) (P:Ps) (ab5:Rs) (ax:cu) (R:df),az x.p.B x.p.C x.p.M x.p.Y F ym x.p.aK x.s x.m x.ms U l_ X S S P ab5 ax R w/\iI x.p.C S P ab5 ax R x.z n
def B2 (x:gN)(n:Nat)(F1:FuncId)(a1:Array Value)(F2:FuncId)(a2:Array Value)(Φ : Value->Value->Prop)(w:World):Prop :=
 Calls prog F1 a1 w λev w1=>∃(v1 v2:Value) (ab9:World->Prop),ev=.returned v1/\Φ v1 v2/\(∀W W',Below W.heap.size W W'->ab9 W->ab9 W')/\(∀W,ab9 W->Below x.p.C.w0.heap.size x.p.C.w0 W)/\ab9 w1/\LF l_ w w1 /\
  ∀w2,ab9 w2->Calls prog F2 a2 w2 λev w3=>ev=.returned v2/\lZ x (n+1) w3/\LF l_ w2 w3
section
variable {C:Dc}{S:Ds}{P P':Ps}{ab5:Rs}{ax Z':cu}{R R':df}{z n:Nat}{ab7:Nat->Prop}{w w':World}{B Y F ym aK s m ms:Nat}{M:Mc}{U ab4:Nat->Prop}{X:Nat->Option Obj}{S0:Ds}{x:gN}{t:Int}
theorem iI.re (h:iI C S P ab5 ax R z n)(E:gP Z' R')(hl:Z'.last=ax.last)(hq:Z'.q=ax.q)(hw:Z'.ws=ax.ws)(hs:Z'.sz=ax.sz)(hn:Z'.n<=n+1)(O:∀t b,Z'.f t=some b->W2 (Z'.g b).o.1 (Z'.g b).o.2):iI C S P ab5 Z' R' z (n+1):=
 ⟨h.j.next,h.ws,E,h.L,h.ab6,by have:=h.q;omega,by have:=h.last;omega,hn,hw.trans h.jw,hs.trans h.sz,O⟩
theorem iI.next (h:iI C S P ab5 ax R z n):iI C S P ab5 ax R z (n+1):=h.re h.gp rfl rfl rfl rfl (by have:=h.cnt;omega) h.w2
theorem iI.set (h:iI C S P ab5 ax R z n){t:Int}{b i:Nat}{x x':gy}{y:Bs}(hinj:∀t t' b,ax.f t=some b->ax.f t'=some b->t=t')(hu:Once R)(hf:ax.f t=some b)(e2:R.ab2[i]?=some x)(e3:(x.id:Int)=t)(hid:x'.id=x.id)(ho:y.o=(ax.g b).o)(Wa:x'.o=x.o)(hl:y.l=x'.l)(hn:y.n=x'.n):iI C S P ab5 {ax with g:=ma ax.g b y} {R with ab2:=R.ab2.set i x'} z (n+1):=by
 obtain⟨a1,a2,a3⟩:=h.gp.same hu hf e2 e3;refine h.re (h.gp.set hinj hu hf e2 e3 hid (by rw[ho,Wa,a1]) hl hn) rfl rfl rfl rfl (by have:=h.cnt;show ax.n<=n+1;omega) (λt' b' hf'=>?_);show W2 (ma ax.g b y b').o.1 (ma ax.g b y b').o.2;by_cases e:b'=b
 ·rw[e,lU,ho];exact h.w2 t b hf
 ·rw[lF e];exact h.w2 t' b' hf'
theorem eU.lf (h:eU ab7 P P' w w'):LF l_ w w':=⟨λ_ h=>h.elim,λb t hm ht=>h.f.s b t ((by decide:∀t∈([51,86]:List TypeId),t∈jP) t hm) ht,h.f.z⟩
theorem lv (J:Below w.heap.size w w'):LF l_ w w':=LF.below (λ_ h=>h.elim) J
theorem ou {t:Int}(h:mR R t=none)(a k:Int):lY R t a k=4:=by unfold lY;rw[af h]
theorem pM {t a k:Int}(h:mR R t≠none)(hno:¬(0<=a/\0<=k/\a+k<=R.sz)):lY R t a k=2:=by unfold lY;rw[ai h,af (by omega)]
theorem zS {t a k:Int}(h:mR R t≠none)(G:0<=a)(O:0<=k)(h3:a+k<=R.sz):lY R t a k=0:=by unfold lY;rw[ai h,ai (by omega)]
theorem az.low (h:az B C M Y F ym aK s m ms U ab4 X S S0 P ab5 ax R w):Below C.w0.heap.size C.w0 w:=h.q.low
theorem az.xM (h:az B C M Y F ym aK s m ms U ab4 X S S0 P ab5 ax R w)(D:Kp (qa C.w0.heap.size m w) w w'):LF l_ w w':=(eU.own (P:=P) D h.k.bq.aQ (λj E=>h.q.p.iH j E)).lf
theorem az.BB {T:Nat->Prop}(h:az B C M Y F ym aK s m ms U ab4 X S S0 P ab5 ax R w)(D:Kp T w w')(hT:∀b,T b->RO ms R b):LF l_ w w':=⟨λ_ h=>h.elim,h.t.lg D hT (by decide),D.size⟩
theorem az.EA (h:az B C M Y F ym aK s m ms U ab4 X S S0 P ab5 ax R w){b:Nat}(hf:ax.f t=some b):qa C.w0.heap.size m w b:=⟨σ h.q.p.hB (h.k.k t b hf).2.1,ε ⟨192,(h.k.k t b hf).1.tg,by decide⟩⟩
theorem az.GX (h:az B C M Y F ym aK s m ms U ab4 X S S0 P ab5 ax R w){b:Nat}(hf:ax.f t=some b):qa C.w0.heap.size m w (ax.g b).q:=⟨σ h.q.p.hB (h.k.k t b hf).2.2.1,ε ⟨5,(h.k.k t b hf).1.rt,by decide⟩⟩
theorem az.sP (h:az x.p.B x.p.C x.p.M x.p.Y F ym x.p.aK x.s x.m x.ms U l_ X S S P ab5 ax R w)(E:iI x.p.C S P ab5 ax R x.z n){aca:FuncId}{a:Array Value}{v:Value}(hA:Calls prog aca a w λev w3=>ev=.returned v/\Below w.heap.size w w3):Calls prog aca a w λev w3=>ev=.returned v/\lZ x (n+1) w3/\LF l_ w w3 :=
 hA.mono (by
  rintro ev w3⟨rfl,J⟩;exact⟨rfl,⟨X,F,ym,U,S,P,ab5,ax,R,h.b J,E.next⟩,lv J⟩)
theorem az.both (h:az x.p.B x.p.C x.p.M x.p.Y F ym x.p.aK x.s x.m x.ms U l_ X S S P ab5 ax R w)(E:iI x.p.C S P ab5 ax R x.z n){aca F':FuncId}{a a':Array Value}{v v':Value}{Φ : Value->Value->Prop}(yx : Φ v v')(G:Calls prog aca a w λev w1=>ev=.returned v/\Below w.heap.size w w1)
  (O:∀W,az x.p.B x.p.C x.p.M x.p.Y F ym x.p.aK x.s x.m x.ms U l_ X S S P ab5 ax R W->Calls prog F' a' W λev w3=>ev=.returned v'/\Below W.heap.size W w3):B2 x n aca a F' a' Φ w:=by
 refine G.mono ?_;rintro ev w1⟨rfl,J⟩;exact⟨v,v',_,rfl,yx,λ_ _ J hK=>hK.b J,λ_ hK=>az.low hK,h.b J,lv J,λw2 hK=>hK.sP E (O w2 hK)⟩
theorem mf {aca:FuncId}{a:Array Value}{v:Value}(h:Calls prog aca a w λev w1=>ev=.returned v/\w1=w):Calls prog aca a w λev w1=>ev=.returned v/\Below w.heap.size w w1:=h.mono (by rintro ev w1⟨rfl,rfl⟩;exact⟨rfl,γ _ _⟩)
theorem CS (hp:wR x.p)(h:lZ x n w)(ht:(Lit.int .i64 t).wf=true):B2 x n 37 #[.pointer (some ⟨x.s,0,none⟩),.int .i64 t] 109 #[.pointer (some ⟨x.ms,0,none⟩),.int .i64 t] (Ga x.p.e) w:=by
 obtain⟨X,F,ym,U,S,P,ab5,ax,R,h,E⟩:=h;have he:dM w x.p.e:=hp.he.below h.low;cases hf:ax.f t with
 |none =>
  refine(tC h.k he ht hf).mono ?_;rintro ev w1⟨rfl,rfl⟩;refine⟨_,_,_,rfl,⟨_,rfl,eL 3 (by omega)⟩,λ_ _ J hK=>az.b hK J,λ_ hK=>az.low hK,h,LF.refl _ _,λw2 hK=>?_⟩;refine(qx hK.t t).mono ?_;rintro ev w3⟨r,R',rfl,hR,h3,D⟩;rcases hR with⟨_,rfl,rfl⟩|⟨i,b,y,e1,e2,e3,_⟩
  ·exact⟨rfl,⟨X,F,ym,U,S,P,ab5,ax,R',hK.uJ D h3,E.next⟩,hK.BB D (λ_ J=>δ (δ J))⟩
  ·exact(E.gp.no t hf y (aH e2) e3).elim
 |some b =>
  obtain⟨i0,c0,y0,a1,a2,a3,_⟩:=h.row E.gp hf;have hfn:∀W,RT x.p.B W x.ms x.p.aK R->mR R t=some c0:=λW hW=>hW.fn a1 a2 a3;by_cases h16:16<=(ax.g b).n
  ·refine(tO h.k he ht hf h16).mono ?_;rintro ev w1⟨rfl,rfl⟩;refine⟨_,_,_,rfl,⟨_,rfl,eL 9 (by omega)⟩,λ_ _ J hK=>az.b hK J,λ_ hK=>az.low hK,h,LF.refl _ _,λw2 hK=>?_⟩;refine(qx hK.t t).mono ?_;rintro ev w3⟨r,R',rfl,hR,h3,D⟩;rcases hR with⟨e,_⟩|⟨i,b',y,e1,e2,e3,hh⟩
   ·rw[hfn _ hK.t]at e;cases e
   ·have hs:=(E.gp.same hK.once hf e2 e3).2.2;rcases hh with⟨_,rfl,rfl⟩|⟨q,_⟩
    ·exact⟨rfl,⟨X,F,ym,U,S,P,ab5,ax,R',hK.uJ D h3,E.next⟩,hK.BB D (λ_ J=>δ (δ J))⟩
    ·omega
  ·refine(yR h.k ht hf (by omega)).mono ?_;rintro ev w1⟨rfl,rf,hZ⟩;have TT:Kp (qa x.p.C.w0.heap.size x.m w) w w1:=by rw[rf];exact Kp.set w b 3 _ (h.EA hf)
   refine⟨_,_,_,rfl,⟨_,rfl,ig⟩,λ_ _ J hK=>az.b hK J,λ_ hK=>az.low hK,h.own TT hZ,h.xM TT,λw2 hK=>?_⟩;refine(qx hK.t t).mono ?_;rintro ev w3⟨r,R',rfl,hR,h3,D⟩;rcases hR with⟨e,_⟩|⟨i,b',y,e1,e2,e3,hh⟩
   ·rw[hfn _ hK.t]at e;cases e
   ·obtain⟨s1,s2,s3⟩:=E.gp.same hK.once hf e2 e3;rcases hh with⟨q,_⟩|⟨_,rfl,rfl⟩
    ·omega
    ·exact⟨rfl,⟨_,F,ym,U,S,P,ab5,_,_,hK.uJ D h3,E.set h.k.inj hK.once hf e2 e3 rfl rfl rfl s2 (by simp only;omega)⟩,hK.BB D (λ_ J=>δ (δ J))⟩
theorem zW (hp:wR x.p)(h:lZ x n w)(ht:(Lit.int .i64 t).wf=true)(a:Int)(st:ByteArray)(hst:st.size<=200):B2 x n 36 #[.pointer (some ⟨x.s,0,none⟩),.int .i64 t,.int .i64 a,.string st] 113 #[.pointer (some ⟨x.ms,0,none⟩),.int .i64 t,.int .i64 a,.string st] (Ga x.p.e) w:=by
 obtain⟨X,F,ym,U,S,P,ab5,ax,R,h,E⟩:=h;have he:dM w x.p.e:=hp.he.below h.low;have hwf:(Lit.int .i64 (st.size:Int)).wf=true:=by simp[Lit.wf,IntKind.min,IntKind.max,IntKind.signed,IntKind.bits];omega
 have hsz:=E.gp.sz;cases hf:ax.f t with
 |none =>
  refine(pY h.k he ht hf a st).mono ?_;rintro ev w1⟨rfl,rfl⟩;refine⟨_,_,_,rfl,⟨_,rfl,eL 3 (by omega)⟩,λ_ _ J hK=>az.b hK J,λ_ hK=>az.low hK,h,LF.refl _ _,λw2 hK=>hK.sP E (mf ?_)⟩;have J:=ou (hK.gone E.gp hf) a st.size;have:=nT hK.t t a st (by rw[J];decide);rwa [J]at this
 |some b =>
  obtain⟨i0,c0,y0,a1,a2,a3,s1,s2,s3⟩:=h.row E.gp hf;have hfn:∀W,RT x.p.B W x.ms x.p.aK R->mR R t≠none:=λW hW q=>by rw[hW.fn a1 a2 a3]at q;cases q
  by_cases eH:0<=a/\a<=(ax.sz:Int)-st.size;case neg =>
   refine(oW h.k he ht hf a st hwf eH).mono ?_;rintro ev w1⟨rfl,rfl⟩;refine⟨_,_,_,rfl,⟨_,rfl,eL 1 (by omega)⟩,λ_ _ J hK=>az.b hK J,λ_ hK=>az.low hK,h,LF.refl _ _,λw2 hK=>hK.sP E (mf ?_)⟩;have J:=pM (a:=a) (k:=st.size) (hfn _ hK.t) (by omega);have:=nT hK.t t a st (by rw[J];decide);rwa [J]at this
  case pos =>
  obtain⟨an,rfl⟩:=bw eH.1;have hle:an+st.size<=ax.sz:=by omega
  by_cases G:1<(ax.g b).n
  ·refine(p9 h.k he ht hf G st hle).mono ?_;rintro ev w1⟨rfl,rfl⟩;refine⟨_,_,_,rfl,⟨_,rfl,eL 5 (by omega)⟩,λ_ _ J hK=>az.b hK J,λ_ hK=>az.low hK,h,LF.refl _ _,λw2 hK=>hK.sP E (mf (uB hK.t st a1 a2 a3 (by omega) (by omega)))⟩
  ·have Lt:(ax.g b).n=1:=by have:=(h.k.k t b hf).2.2.2.2.2.2.1;omega
   refine(o6 h.k ht hf Lt st hle).mono ?_;rintro ev w1⟨rfl,rf,hZ⟩;have TT:Kp (qa x.p.C.w0.heap.size x.m w) w w1:=by rw[rf];exact⟨rfl,rfl,rfl,by simp,λj _ hn=>setRow_other _ _ _ _ (λe=>hn (e▸h.GX hf))⟩
   refine⟨_,_,_,rfl,⟨_,rfl,ig⟩,λ_ _ J hK=>az.b hK J,λ_ hK=>az.low hK,h.own TT hZ,h.xM TT,λw2 hK=>?_⟩;refine(uz hK.t st a1 a2 a3 (by omega) (by omega)).mono ?_;rintro ev w3⟨rfl,h3,D⟩;exact⟨rfl,⟨_,F,ym,U,S,P,ab5,_,_,hK.uJ D h3,E.set h.k.inj hK.once hf a2 a3 rfl rfl rfl (by simp only;rw[s2]) (by simp only;omega)⟩,hK.BB D (λ_ J=>δ (δ J))⟩
end
end Pl
namespace Pl
open Fr Bd Zn Dz Sb Mg
section
variable {B:Nat}{C:Dc}{ab7:Nat->Prop}{X:Nat->Option Obj}{Y F ym m s:Nat}{S:Ds}{P:Ps}{w w':World}{ax:cu}{e:Nat->Addr}
theorem xN {w W:World}(he:dM w e)(J:Below w.heap.size w W):Calls prog 150 #[.iface 424 (.pointer (some (e 1))),.iface 424 (.pointer (some (e 7)))] W λe w'=>e=.returned (.bool false)/\w'=W:=by
 obtain⟨c1,t1,G⟩:=(he.below J).blk 1 (by omega);obtain⟨c7,t7,h7⟩:=(he.below J).blk 7 (by omega);exact xp (e 1) (e 7) c1 c7 t1 t7 W (λq=>by have:=he.inj 1 7 (by omega) (by omega) q;omega) G h7
theorem uU (h:bR B C ab7 X Y F ym S P s m ax w)(he:dM C.w0 e){x y:Int}
  (HT:∀ab7 W,bR B C ab7 X Y F ym S P s m ax W->Calls prog 15 #[.pointer (some ⟨Y,0,none⟩),.int .i64 x,.int .i64 y] W λev w'=>ev=.returned (.tuple #[bz 0 0,bc (e 1)])/\PD B C ab7 X Y F ym S P w'/\PF ab7 P P W w'):
  Calls prog 103 #[.pointer (some ⟨s,0,none⟩),.int .i64 x,.int .i64 y] w λev w'=>ev=.returned (.tuple #[bz 0 0,bc (e 1)])/\bR B C ab7 X Y F ym S P s m ax w'/\PF ab7 P P w w':=by
 have F1:=χ (γ w.heap.size w) (cB 0 0);have R1:=cQ w;have H1:=h.more F1 (ζ _) R1.tg;have cZ:=I (h.d.fb F1);have HC:=I (HT _ _ H1);have fk:=I R1;have HV:=I h.d.uu;have HE:=I he;have c0:=H1.k.c0;have Pn:=I H1;clear h F1 R1 H1 he HT;unfold bz bc at*;go_enter func103,ntmps103;go_upto_region 1 with(fail);generalize w.alloc (cB 0 0)=W at*;go_wp2_with fail;refine(Z HC).mono ?_;rintro ev w2⟨rfl,D2,F2⟩;have H2:=(Z Pn).pool D2 F2;have R2:=(Z fk).blk (F2.v w.heap.size (δ rfl));have F3:=χ (γ w2.heap.size w2) (cB 0 0);have H3:=H2.b F3;have R3:=R2.b F3;have fY:=I (((Z cZ).trans (F2.mono λj E=>ε E)).trans ((H2.d.fb F3).mono λj E=>ε E));have q':=θ w2 #[.int .i64 0,.int .i64 0] 34;have q0:=q' 0;have q1:=q' 1;simp only[Δ,υ,ω]at q0 q1;have v7:=((Z HE).below (DQ.b0 H3.d.k)).v7;have HN:Hid (∀W,Below w2.heap.size w2 W->Calls prog 150 #[.iface 424 (.pointer (some (e 1))),.iface 424 (.pointer (some (e 7)))] W λe w'=>e=.returned (.bool false)/\w'=W):=λW J=>xN ((Z HE).below (DQ.b0 H2.d.k)) J;have tu:=I F3;have eD:=I H3;have iq:=I R3;clear HC D2 F2 H2 R2 F3 H3 R3 q' Pn fk cZ c0 HE;simp only at*;go_upto_region 4 with(fail);generalize w2.alloc (cB 0 0)=W3 at*;generalize KW:w2.heap.size=b9 at*;obtain⟨r0,r1,bQ,rt⟩:=Z iq;have f0:=bQ 0;have f1:=bQ 1;clear bQ;go_wp2_with fail;refine((Z HN) _ (Z tu)).mono ?_;rintro ev w4⟨rfl,rfl⟩;clear HN v7 tu;obtain⟨t0,t1⟩:=aW r0 r1 (.int .i64 0) (.int .i64 0);go_wp2;refine Θ (v:=.tuple #[.agg #[.int .i64 0,.int .i64 0],.iface 424 (.pointer (some (e 1)))]) (by simp[results,results103,go_sem,t0,t1];try rfl) rfl ?_;exact⟨rfl,((((Z eD).h_ (δ rfl) 0 _).h_ (δ rfl) 1 _).less λj E=>ε E),((Z fY).box (Z HV) (ζ _) 0 _).box (Z HV) (ζ _) 1 _⟩
theorem pR (h:bR B C ab7 X Y F ym S P s m ax w)(he:dM C.w0 e){x y:Int}
  (HT:∀ab7 W,bR B C ab7 X Y F ym S P s m ax W->Calls prog 15 #[.pointer (some ⟨Y,0,none⟩),.int .i64 x,.int .i64 y] W λev w'=>ev=.returned (.tuple #[bz 0 0,bc (e 1)])/\PD B C ab7 X Y F ym S P w'/\PF ab7 P P W w'):
  Calls prog 35 #[.pointer (some ⟨s,0,none⟩),.int .i64 x,.int .i64 y] w λev w'=>ev=.returned (.tuple #[.int .i64 0,bc (e 1)])/\bR B C ab7 X Y F ym S P s m ax w'/\eU ab7 P P w w':=by
 have HC:=I (uU h he HT);clear h he HT;unfold bz at*;go_enter func35,ntmps35;go_wp2_with fail;refine(Z HC).mono ?_;rintro ev w2⟨rfl,H2,F2⟩;have F3:=χ (γ w2.heap.size w2) (cB 0 0);have H3:=I (H2.b F3);have Dg:=I ((F2.fv).trans (eU.below (λj E=>(H2.d.iH j E).lt) F3));clear HC H2 F2 F3;unfold bc at*;go_wp2;refine Θ (v:=.tuple #[.int .i64 0,.iface 424 (.pointer (some (e 1)))]) (by simp[results,results35,go_sem];try rfl) rfl ?_;exact⟨rfl,Z H3,Z Dg⟩
end
def Km (B:Nat)(C:Dc)(ab7:Nat->Prop)(X:Nat->Option Obj)(Y F ym s m:Nat)(P:Ps)(ax:cu)(b:Nat)(e:Nat->Addr)(Φ : Bl->Ds->Ps->Prop)(mJ:Ds->Ps->Prop)(w:World)(ev:Ending)(w':World):Prop :=
   (ev=.returned (.tuple #[.int .i64 ((ax.last:Int)+1),.nilIface])/\∃(o:Bl) (S':Ds) (P':Ps) (b' q':Nat) (X':Nat->Option Obj),Φ o S' P'/\b'≠b/\eU ab7 P P' w w' /\
    bR B C ab7 X' Y F ym S' P' s m {ax with last:=ax.last+1,q:=ax.q+1,n:=ax.n+1,f:=mE ax.f ((ax.last:Int)+1) (some b'),g:=ma (ma ax.g b' ⟨o,(ax.g b).l,1,q'⟩) b {ax.g b with n:=(ax.g b).n-1}} w') \/
   (ev=.returned (.tuple #[.int .i64 0,bc (e 7)])/\∃(S':Ds) (P':Ps) (ic:Value),mJ S' P'/\eU ab7 P {P' with L:=[],vl:=ic} w w'/\bR B C ab7 X Y F ym S' {P' with L:=[],vl:=ic} s m ax w')
section
variable {B:Nat}{C:Dc}{ab7:Nat->Prop}{X:Nat->Option Obj}{Y F ym m s:Nat}{S:Ds}{P:Ps}{w w':World}{ax:cu}{e:Nat->Addr}
theorem zX (h:bR B C ab7 X Y F ym S P s m ax w){x y:Int}{a:Addr}{ab9:World->Prop}(_hK:∀W W',Below W.heap.size W W'->ab9 W->ab9 W')
  (HT:Calls prog 35 #[.pointer (some ⟨s,0,none⟩),.int .i64 x,.int .i64 y] w λev w'=>ev=.returned (.tuple #[.int .i64 0,bc a])/\ab9 w')
  {t:Int}(ht:(Lit.int .i64 t).wf=true){b:Nat}(hf:ax.f t=some b)(hn:1<(ax.g b).n):
  Calls prog 39 #[.pointer (some ⟨s,0,none⟩),.int .i64 x,.int .i64 y,.int .i64 t] w λev w'=>ev=.returned (.tuple #[.int .i64 0,bc a])/\ab9 w':=by
 have HC:=I HT;have c3:=h.k.c3;have hl:=h.k.bq.look ht;have k3:=(h.k.k t b hf).1.c3;have d4:(((ax.g b).n:Int)==1)=false:=by simp;omega
 have d5:decide (((ax.g b).n:Int)=1)=false:=by simp;omega
 rw[hf]at hl;unfold L8 bc at*;clear h HT hf;go_enter func39,ntmps39;go_wp2_with fail;refine(Z HC).mono ?_;rintro ev w2⟨rfl,D⟩;have HK:=I D;clear HC D hl c3 k3;go_wp2;refine Θ (v:=.tuple #[.int .i64 0,.iface 424 (.pointer (some a))]) (by simp[results,results39,go_sem];try rfl) rfl ?_;exact⟨rfl,Z HK⟩
theorem EC (h:bR B C ab7 X Y F ym S P s m ax w){x y:Int}(Φ : Bl->Ds->Ps->Prop)(mJ:Ds->Ps->Prop)(_hq:ax.q<1000000)(hlast:ax.last<1000000)
  (HT:Calls prog 35 #[.pointer (some ⟨s,0,none⟩),.int .i64 x,.int .i64 y] w λev w'=>Ig B C ab7 X Y F ym s m P ax e Φ mJ w ev w')
  {t:Int}(ht:(Lit.int .i64 t).wf=true){b:Nat}(hf:ax.f t=some b)(hn:1<(ax.g b).n):
  Calls prog 39 #[.pointer (some ⟨s,0,none⟩),.int .i64 x,.int .i64 y,.int .i64 t] w λev w'=>Km B C ab7 X Y F ym s m P ax b e Φ mJ w ev w':=by
 have HC:=I HT;have c3:=h.k.c3;have hl:=h.k.bq.look ht;have hkb:=h.k.k t b hf;have k3:=hkb.1.c3;have d4:(((ax.g b).n:Int)==1)=false:=by simp;omega
 have d5:decide (((ax.g b).n:Int)=1)=false:=by simp;omega
 rw[hf]at hl;have GZ:=I hkb;have G5:=I hf;unfold L8 at*;clear h HT hkb hf;go_enter func39,ntmps39;go_wp2_with fail;refine(Z HC).mono ?_;rintro ev w2(⟨rfl,o,S2,P2,b',q',X',yx,nH,H2⟩|⟨rfl,S2,P2,ic,vX,nH,H2⟩)
 ·as_aux_lemma =>
   obtain⟨_,hBb,ZN,Y5,uX,k6,KA,G6⟩:=Z GZ;have xO:mE ax.f ((ax.last:Int)+1) (some b') t=some b:=by rw[l5 (by omega)];exact Z G5
   have xR:mE ax.f ((ax.last:Int)+1) (some b') ((ax.last:Int)+1)=some b':=l8 _ _ _;have LP:b'≠b:=λq=>by
    subst q;have:=H2.k.inj _ _ _ xO xR;omega
   have j6:=(H2.k.k _ b' xR).1;have kr:=(H2.k.k t b xO).1;simp only[lU]at j6;simp only[lF LP.symm]at kr;have hcp:=λty=>qh (kr.b (dw w2)) (j6.b (dw w2)) (by simp[k6]) ty;have HD:=H2.b (dw w2);have G7:=HD.k.DD xR (l:=(ax.g b).l) k6;simp only[lU,BQ]at G7;have oG:C.w0.heap.size<=q':=σ H2.d.hB (by have:=(H2.k.k _ b' xR).2.2.1;simpa only[lU]using this);have hgb:C.w0.heap.size<=b:=σ H2.d.hB hBb;have hko:Kp (qa C.w0.heap.size m w2.drew) w2.drew (w2.drew.setRow q' (Lib.byteCells (ax.g b).l).toArray):=⟨rfl,rfl,rfl,by simp,λj _ hn=>setRow_other _ _ _ _ (λe=>hn ⟨e▸oG,ε ⟨5,e▸(j6.b (dw w2)).rt,by decide⟩⟩)⟩;have K3:=HD.own (w':=w2.drew.setRow q' (Lib.byteCells (ax.g b).l).toArray) ⟨rfl,rfl,rfl,by simp,λj _ hn=>setRow_other _ _ _ _ (λe=>hn ⟨e▸oG,ε ⟨5,e▸(j6.b (dw w2)).rt,by decide⟩⟩)⟩ G7;have e1:(((ax.g b).n-1:Nat):Int)=((ax.g b).n:Int)-1:=by omega
   have Bt:=K3.k.BL xO (n:=(ax.g b).n-1) ⟨by omega,by omega⟩;simp only[lF LP.symm]at Bt;have Dy:=(K3.k.k t b xO).1;simp only[lF LP.symm]at Dy;have K4:=K3.own (Kp.set _ b 3 _ ⟨hgb,ε ⟨192,Dy.tg,by decide⟩⟩) Bt;rw[e1]at K4;have YY:=I K4;have hV2:∀j,ab7 j->Tag w2 j 34:=λj E=>H2.d.iH j E;have Jy:∀j,ab7 j->Tag w2.drew j 34:=λj E=>HD.d.iH j E;have F4:=((nH.trans (eU.below (P:=P2) (λj E=>(hV2 j E).lt) (dw w2))).trans (eU.own hko HD.k.bq.aQ Jy)).trans (eU.own (Kp.set _ b 3 (.int .i64 (((ax.g b).n-1:Nat):Int)) ⟨hgb,ε ⟨192,Dy.tg,by decide⟩⟩) K3.k.bq.aQ (λj E=>K3.d.iH j E));rw[e1]at F4;have jI:=I F4;have c32:=H2.k.c3;have hwl:(Lit.int .i64 ((ax.last:Int)+1)).wf=true:=by simp[Lit.wf,IntKind.min,IntKind.max,IntKind.signed,IntKind.bits];omega
   have hl2:=HD.k.bq.look hwl;simp only[l8]at hl2;have Jz:=j6.c2;have JA:=kr.c2;have KT:=Dy.c3;have KU:=Dy.fz 3;have hw:IntKind.i64.wrap (((ax.g b).n:Int)-1)=((ax.g b).n:Int)-1:=aB _ (by omega);unfold yJ L8 at*;simp only[List.length_replicate,k6]at Jz JA hcp;have WL:=I yx;have NG:=I LP;clear hV2 Jy F4 nH hko HC yx H2 HD G7 K3 Bt K4 Dy kr j6 oG hgb hl c3 k3 d4 d5 GZ G5 xO xR LP hBb ZN Y5 uX KA G6 k6 hwl e1 hlast hn;go_upto_region 9 with(fail);go_region
   all_goals
    clear hl2 hcp Jz JA c32;generalize w2.drew.setRow q' (Lib.byteCells (ax.g b).l).toArray=W3 at*;go_wp2;refine Θ (v:=.tuple #[.int .i64 ((ax.last:Int)+1),.nilIface]) (by simp[results,results39,go_sem];try rfl) rfl ?_;exact ε ⟨rfl,o,S2,P2,b',q',_,Z WL,Z NG,Z jI,Z YY⟩
 ·as_aux_lemma =>
  have H3:=I H2;have Dg:=I nH;have DF:=I vX;clear HC H2 nH vX hl c3 k3 GZ G5;unfold bc at*;go_wp2;refine Θ (v:=.tuple #[.int .i64 0,.iface 424 (.pointer (some (e 7)))]) (by simp[results,results39,go_sem];try rfl) rfl ?_;exact δ ⟨rfl,S2,P2,ic,Z DF,Z Dg,Z H3⟩
end
open Rd
def CW (C:Dc)(S:Ds)(P:Ps)(a y:Int)(o:Bl)(S':Ds)(P':Ps):Prop:=FA C S'/\((mV C S a y false none o S'/\P' = {P with T:=P.T++[o],q:=P.q+1})\/∃(k:Nat) (ab9:List Bl) (rR:Value),mV C S a y false (some k) (0,0) S'/\P.R=ab9++[o]/\P' = {P with R:=ab9,vr:=rR,T:=P.T++[o],q:=P.q+1})
def EM (C:Dc)(S:Ds)(P:Ps)(a y:Int)(S':Ds)(P':Ps):Prop:=FA C S'/\∃(k:Nat) (ic:Value),mV C S a y false (some k) (0,0) S'/\P.R=[]/\P' = {P with L:=P.L++[P.tk+1],tk:=P.tk+1,vl:=ic}
section
variable {B:Nat}{C:Dc}{M:Mc}{Y F ym aK s m ms n:Nat}{U ab7:Nat->Prop}{X X':Nat->Option Obj}{S S':Ds}{P P' P0:Ps}{ab5 Q':Rs}{ax Z':cu}{R:df}{w w':World}{x:gN}{t a y:Int}{p:Px}{o:Bl}{ic:Value}
theorem PJ.KC {ic kj:Value}(h:PJ C S P ab5 n):PJ C S {P with L:=[],vl:=ic} {ab5 with L:=[],vL:=kj} n :=
 ⟨h.e1,h.e2,h.e3,rfl,h.e5,h.e6,h.e7,h.most,h.rl,h.ab5,h.q,h.tk,Γ _,λ_ ht=>(by cases ht),h.yt,dm,h.FX,h.V,h.out,h.tl,h.yl⟩
theorem PJ.waits {k:Nat}{ic kj:Value}(E:PJ C S P ab5 n)(hL:P.L=[])(hT:mV C S a y false (some k) (0,0) S'):PJ C S' {P with L:=P.L++[P.tk+1],tk:=P.tk+1,vl:=ic} {ab5 with L:=ab5.L++[ab5.last+1],last:=ab5.last+1,vL:=kj} (n+1):=by
 have hj':=E.wait (ic:=ic) (kj:=kj) (by rw[hL];simp);have hQ':S'.ab5=S.ab5:=qi hT;exact⟨hj'.e1,hj'.e2,hj'.e3,hj'.e4,hj'.e5,hj'.e6,hj'.e7,hj'.most,hj'.rl,by have:=E.ab5;omega,hj'.q,hj'.tk,hj'.ln,hj'.lt,hj'.yt,hj'.DR,hj'.FX,hj'.V,λp hp=>BK hT (hj'.out p hp),hj'.tl,hj'.yl⟩
theorem CW.w2 {V':Nat->Prop}(h:CW C S P a y o S' P')(E:PJ C S P ab5 n)(hD:DK C ab7 X S' w)(hD0:DK C V' X' S w'):W2 o.1 o.2:=by
 obtain⟨hF,⟨hT,_⟩|⟨k,ab9,vr,hT,hR,_⟩⟩:=h
 ·exact iX hD (mL hD0.fa hT).2.1
 ·exact iX hD0 (E.out o (by rw[hR];simp))
theorem EN (hp:wR p)(E:PJ p.C S P ab5 n)(hL:P.L=[])(hY:P.ab6=[])(hn:n<=150)(hx:0<=a/\a<S.ws.length)(hy:0<=y/\y<p.C.k):∀ab7 W,bR p.B p.C ab7 X p.Y F ym S P s m ax W->Ff p.B p.C X p.Y F ym p.e P a y (CW p.C S P a y) (EM p.C S P a y) ab7 W:=by
 intro ab7 W h;have mC:=h.d.k.fa;have abg:∀o∈P.R,o∉P.T:=λo ho hm=>(aF.1 E.V).2.2 o ho o (by simp[hm]) rfl;refine(yu h.d hp.hN hp.he hp.Hh hL hx hy (by have:=E.q;omega) (by have:=E.tk;omega) (λo S' U2 X2 W hT hD=>?_) (λo ho=>⟨abg o ho,iX h.d.k (E.out o (by simp[ho]))⟩)).mono ?_
 ·obtain⟨t1,t2,t3⟩:=mL mC hT;exact⟨λhm=>t1 (E.out o (by simp[hm])),iX hD t2⟩
 rintro ev w1⟨r,o,S',hT,G⟩;rcases G with⟨rfl,rfl,hD,hF⟩|⟨hr,ab9,o2,rR,hR,rfl,hD,hF⟩|⟨hr,hR,ic,rfl,hD,hF⟩
 ·exact ε ⟨o,S',_,rfl,hD,hF,hD.k.fa,ε ⟨hT,rfl⟩⟩
 ·cases r with
  |none=>exact absurd rfl hr
  |some k =>
   obtain rfl:o=(0,0):=mh hT;exact ε ⟨o2,S',_,rfl,hD,hF,hD.k.fa,δ ⟨k,ab9,rR,hT,hR,rfl⟩⟩
 ·cases r with
  |none=>exact absurd rfl hr
  |some k =>
   obtain rfl:o=(0,0):=mh hT;have hw:=E.waits (ic:=ic) (kj:=ic) hL hT;exact δ ⟨S',_,rfl,hD,hF,⟨hw.pi (by omega),by simp[hL],hY⟩,hD.k.fa,k,ic,hT,hR,rfl⟩
theorem BF (hp:wR p)(jl:¬((0<=a/\a<S.ws.length)/\(0<=y/\y<p.C.k))):∀ab7 W,bR p.B p.C ab7 X p.Y F ym S P s m ax W->Calls prog 15 #[.pointer (some ⟨p.Y,0,none⟩),.int .i64 a,.int .i64 y] W λev w'=>ev=.returned (.tuple #[bz 0 0,bc (p.e 1)])/\PD p.B p.C ab7 X p.Y F ym S P w'/\PF ab7 P P W w':=by
 intro ab7 W h;by_cases hx:0<=a/\a<S.ws.length
 ·exact FJ h.d hp.he hx (λhy=>jl ⟨hx,hy⟩)
 ·exact FI h.d hp.he hx y
theorem xU (hp:wR x.p)(h:az x.p.B x.p.C x.p.M x.p.Y F ym x.p.aK x.s x.m x.ms U l_ X S' S P' ab5 Z' R w)(E:PJ x.p.C S P ab5 n)(hL:P.L=[])(hY:P.ab6=[])(hF:FA x.p.C S)(dR:S.ws.length=2)(hx:0<=a/\a<S.ws.length)(hy:0<=y/\y<x.p.C.k)(hn:n<=150)(hlast:R.last<1000)(hcnt:R.bs.length<1000)(hT:CW x.p.C S P a y o S' P'):
  Calls prog 108 #[.pointer (some ⟨x.ms,0,none⟩),.int .i64 a,.int .i64 y] w λev w'=>ev=.returned (.tuple #[.int .i64 ((R.last:Int)+1),.int .i64 0])/\∃(Q':Rs) (v':Value) (b:Nat),az x.p.B x.p.C x.p.M x.p.Y F ym x.p.aK x.s x.m x.ms U l_ X S' S' P' Q' Z' {R with last:=R.last+1,v:=v',bs:=R.bs++[b],ab2:=R.ab2++[⟨R.last+1,o,List.replicate R.sz 0,1⟩]} w'/\LF l_ w w'/\PJ x.p.C S' P' Q' (n+1)/\S'.ws.length=2/\P'.L=[]/\P'.ab6=[]:=by
 have N5:S.ab5<=1000:=by have:=E.ab5;omega
 have hL2:ab5.L=[]:=E.e4.trans hL;obtain⟨hF',hT⟩:=hT;have HT:Calls prog 23 #[.pointer (some ⟨x.p.aK,0,none⟩),.int .i64 a,.int .i64 y] w λev w1=>∃o1:Bl,ev=.returned (.tuple #[bz o1.1 o1.2,.int .i64 0])/\RT x.p.B w1 x.ms x.p.aK R/\(o1=o/\∃Q',az x.p.B x.p.C x.p.M x.p.Y F ym x.p.aK x.s x.m x.ms U l_ X S' S' P' Q' Z' R w1/\LF l_ w w1/\PJ x.p.C S' P' Q' (n+1)/\S'.ws.length=2/\P'.L=[]/\P'.ab6=[]):=by
  rcases hT with⟨hT,rfl⟩|⟨k,ab9,rR,hT,hR,rfl⟩
  ·obtain⟨t1,t2,t3⟩:=mL hF hT;have hQ':S'.ab5=S.ab5:=qi hT;refine(FY h.q.r E.e7 hx hy hL2 (by rw[E.e3];have:=E.tl;omega) hF hF' N5 hp.fr hT).mono ?_;rintro ev w3⟨rfl,ie,hR,hf⟩;have h3:=h.ref hp.hN hR hf;exact⟨o,rfl,h3.t,rfl,_,h3,hf.lf h.q.r h.q.bo,E.took (by have:=E.ab5;omega) t1 t2 t3,hT.wl.trans dR,hL,hY⟩
  ·have hQ':S'.ab5=S.ab5:=qi hT;have hKl:ab9.length<16:=by
    have G:=E.rl;have O:=E.most;rw[hR]at G;simp only[φ,ag]at G;omega
   refine(zf h.q.r E.e7 hx hy hL2 (by rw[E.e3];have:=E.tl;omega) hF hF' N5 hp.fr hT (ab9:=ab9) (o:=o) (by rw[E.e2];exact hR) (by omega)).mono ?_;rintro ev w3⟨rfl,DT,ie,pO,hf⟩;have h3:=h.ref hp.hN pO hf;exact⟨o,rfl,h3.t,rfl,_,h3,hf.lf h.q.r h.q.bo,E.spare (by have:=E.ab5;omega) hR (λp=>BK hT),hT.wl.trans dR,hL,hY⟩
 refine(ru h.t (by omega) (by omega) (ab9:=λo1 w1=>o1=o/\∃Q',az x.p.B x.p.C x.p.M x.p.Y F ym x.p.aK x.s x.m x.ms U l_ X S' S' P' Q' Z' R w1/\LF l_ w w1/\PJ x.p.C S' P' Q' (n+1)/\S'.ws.length=2/\P'.L=[]/\P'.ab6=[]) (λo1 W W' J D=>?_) HT).mono ?_
 ·obtain⟨e,Q',G,O,h3⟩:=D;exact⟨e,Q',G.b J,O.trans (lv J),h3⟩
 ·rintro ev w4⟨rfl,o1,w1,v',b,⟨rfl,Q',G,O,h3⟩,_,h4,D,J,hv⟩;have hro:∀j,(j=x.ms\/OB R.v j)->RO x.ms R j:=λj E=>by
   rcases E with E|E
   ·exact ε E
   ·exact δ (ε E)
  exact⟨rfl,Q',v',b,G.xJ D (λj E=>G.t.kinds (hro j E)) (λj E=>(G.t.lt (hro j E)).2) h4,O.trans (G.BB D hro),h3⟩
theorem xV (hp:wR x.p)(h:az x.p.B x.p.C x.p.M x.p.Y F ym x.p.aK x.s x.m x.ms U l_ X S' S {P0 with L:=[],vl:=ic} ab5 ax R w)(E:PJ x.p.C S P ab5 n)(hL:P.L=[])(hY:P.ab6=[])(hF:FA x.p.C S)(dR:S.ws.length=2)(hx:0<=a/\a<S.ws.length)(hy:0<=y/\y<x.p.C.k)(hn:n<=150)(hT:EM x.p.C S P a y S' P0):
  Calls prog 108 #[.pointer (some ⟨x.ms,0,none⟩),.int .i64 a,.int .i64 y] w λev w'=>ev=.returned (.tuple #[.int .i64 0,.int .i64 8])/\∃(Q':Rs),az x.p.B x.p.C x.p.M x.p.Y F ym x.p.aK x.s x.m x.ms U l_ X S' S' {P0 with L:=[],vl:=ic} Q' ax R w'/\LF l_ w w'/\PJ x.p.C S' {P0 with L:=[],vl:=ic} Q' (n+1)/\S'.ws.length=2/\P0.ab6=[]:=by
 have N5:S.ab5<=1000:=by have:=E.ab5;omega
 have hL2:ab5.L=[]:=E.e4.trans hL;obtain⟨hF',k,vl,hT,hR,rfl⟩:=hT;have Iz:=h.q.bo;have HT:Calls prog 23 #[.pointer (some ⟨x.p.aK,0,none⟩),.int .i64 a,.int .i64 y] w λev w1=>ev=.returned (.tuple #[bz 0 0,.int .i64 8])/\RT x.p.B w1 x.ms x.p.aK R/\∃kj,az x.p.B x.p.C x.p.M x.p.Y F ym x.p.aK x.s x.m x.ms U l_ X S' S' {{P with L:=P.L++[P.tk+1],tk:=P.tk+1,vl:=vl}with L:=[],vl:=ic} {ab5 with L:=ab5.L++[ab5.last+1],last:=ab5.last+1,vL:=kj} ax R w1/\LF l_ w w1:=by
  refine(BM h.q.r E.e7 hx hy hL2 hF hF' N5 hp.fr hT (by rw[E.e2];exact hR) (by have:=E.e6;have:=E.tk;omega)).mono ?_;rintro ev w3⟨rfl,kj,pO,hf⟩;have h3:=h.ref hp.hN pO hf;exact⟨rfl,h3.t,kj,h3,hf.lf h.q.r Iz⟩
 refine(pJ h.t (ab9:=λw1=>∃kj,az x.p.B x.p.C x.p.M x.p.Y F ym x.p.aK x.s x.m x.ms U l_ X S' S' {{P with L:=P.L++[P.tk+1],tk:=P.tk+1,vl:=vl}with L:=[],vl:=ic} {ab5 with L:=ab5.L++[ab5.last+1],last:=ab5.last+1,vL:=kj} ax R w1/\LF l_ w w1) (K':=λw1=>∃kj,az x.p.B x.p.C x.p.M x.p.Y F ym x.p.aK x.s x.m x.ms U l_ X S' S' {{P with L:=P.L++[P.tk+1],tk:=P.tk+1,vl:=vl}with L:=[],vl:=ic} {ab5 with L:=[],last:=ab5.last+1,vL:=kj} ax R w1/\LF l_ w w1) (λW W' J D=>?_) HT (n:=ab5.last+1) (λW D=>?_) (λW _ D=>?_)).mono ?_
 ·obtain⟨kj,G,O⟩:=D;exact⟨kj,G.b J,O.trans (lv J)⟩
 ·obtain⟨kj,G,O⟩:=D;have hm:=G.q.r.m;have hl:=hm.l;have c4:=hm.c4;simp only[hL2,aT,ag]at hl c4;obtain⟨g,c,rfl,_⟩:=hl.form (by omega);have x5:=hl.cellAt 0 (by simp);simp only[dX,dL,υ]at x5;exact⟨hm.tg.lt,g,0,c,by omega,c4,x5,(fV hl).lt⟩
 ·obtain⟨kj,G,O⟩:=D;refine(wD G.q.r (tt:=ab5.last+1) (ab9:=[]) (Mm:=[]) E.e7 (by simp[hL2]) (by simp[hL2]) (by simp)).mono ?_;rintro ev w3⟨rfl,vL2,pO,hf⟩;have h3:=G.ref hp.hN pO hf;exact⟨⟨0,rfl⟩,h3.t,vL2,h3,O.trans (hf.lf G.q.r G.q.bo)⟩
 ·rintro ev w4⟨rfl,_,kj,G,O⟩;exact⟨rfl,_,G,O,(E.waits (ic:=vl) (kj:=kj) hL hT).KC (ic:=ic) (kj:=kj),hT.wl.trans dR,hY⟩
end
def ER (e:Nat->Addr)(v1 v2:Value):Prop:=∃(k:Int) (er:Value) (r:Int),v1=.tuple #[.int .i64 k,er]/\v2=.tuple #[.int .i64 k,.int .i64 r]/\Uz e er r
theorem xW {g:Nat->Bs}{b c:Nat}(h:b≠c)(x y:Bs):ma (ma g b x) c y=ma (ma g c y) b x:=by
 funext j;by_cases G:j=b
 ·subst G;rw[lF h,lU,lU]
 ·by_cases O:j=c
  ·subst O;rw[lU,lF G,lU]
  ·rw[lF O,lF G,lF G,lF O]
section
variable {F ym n:Nat}{U:Nat->Prop}{X X':Nat->Option Obj}{S S':Ds}{P P':Ps}{ab5 Q':Rs}{ax:cu}{R:df}{w w':World}{x:gN}{t a y:Int}{o:Bl}{b b' i:Nat}{il:gy}{B:Nat}{C:Dc}{Y s m:Nat}{Z':cu}{r:Option Nat}
theorem bg.xY (h:bg B w s Y m ax){g:Nat->Bs}{q c:Nat}(O:bg B w' s Y m {ax with last:=ax.last+1,q:=q,n:=c,f:=mE ax.f ((ax.last:Int)+1) (some b'),g:=g}):∀t,ax.f t≠some b':=λt ht=>by
 have G:=(h.k t b' ht).2.2.2.2.1;have h3:=O.inj t ((ax.last:Int)+1) b' (by show mE _ _ _ t=_;rw[l5 (by omega)];exact ht) (l8 _ _ _);omega
theorem xZ (h:∀t b,ax.f t=some b->W2 (ax.g b).o.1 (ax.g b).o.2){k:Int}{y':Bs}(hy:W2 y'.o.1 y'.o.2):∀t b,mE ax.f k (some b') t=some b->W2 (ma ax.g b' y' b).o.1 (ma ax.g b' y' b).o.2:=λt b hf=>by
 by_cases e:b=b'
 ·subst e;rw[lU];exact hy
 ·rw[lF e];unfold mE at hf;split at hf
  ·exact absurd (ah hf).symm e
  ·exact h t b hf
theorem CY (hp:wR x.p)(Hh:11<x.p.C.w0.heap.size)(h:lZ x n w)(hn:n<=150)(a y:Int):B2 x n 35 #[.pointer (some ⟨x.s,0,none⟩),.int .i64 a,.int .i64 y] 108 #[.pointer (some ⟨x.ms,0,none⟩),.int .i64 a,.int .i64 y] (ER x.p.e) w:=by
 obtain⟨X,F,ym,U,S,P,ab5,ax,R,h,E⟩:=h;have e1:=E.gp.last;have CZ:=h.q.p.k.fa;have hlast:=E.last;have hbs:R.bs.length<1000:=by rw[<- h.t.len,<- E.gp.n];have:=E.cnt;omega
 by_cases jl:(0<=a/\a<S.ws.length)/\(0<=y/\y<x.p.C.k);case neg =>
  refine(pR h.sp hp.he (BF hp jl)).mono ?_;rintro ev w1⟨rfl,hSP,nH⟩;refine⟨_,_,_,rfl,⟨_,_,_,rfl,rfl,eL 1 (by omega)⟩,λ_ _ J hK=>az.b hK J,λ_ hK=>az.low hK,h.pgr hSP nH,nH.lf,λw2 hK=>?_⟩;refine(nY hK.t (r:=2) (by omega) (ab9:=λW=>az x.p.B x.p.C x.p.M x.p.Y F ym x.p.aK x.s x.m x.ms U l_ X S S P ab5 ax R W/\LF l_ w2 W) (λW W' J D=>⟨D.1.b J,D.2.trans (lv J)⟩) ((yN hK.q.r E.j.e7 jl).mono (λev w3 h3=>⟨h3.1,hK.t.b h3.2,hK.b h3.2,lv h3.2⟩))).mono ?_;rintro ev w3⟨rfl,_,h3,h4⟩;exact⟨rfl,⟨X,F,ym,U,S,P,ab5,ax,R,h3,E.next⟩,h4⟩
 case pos =>
 refine(oJ h.sp hp.he Hh (CW x.p.C S P a y) (EM x.p.C S P a y) (by have:=E.q;omega) (by omega) (EN hp E.j E.L E.ab6 hn jl.1 jl.2)).mono ?_;rintro ev w1(⟨rfl,o,S',P',b,q',X',yx,nH,hSP⟩|⟨rfl,S',P',ic,vX,nH,hSP⟩)
 ·refine⟨_,_,_,rfl,⟨_,_,_,rfl,rfl,ig⟩,λ_ _ J hK=>az.b hK J,λ_ hK=>az.low hK,h.pgr hSP nH,nH.lf,λw2 hK=>?_⟩;refine(xU hp hK E.j E.L E.ab6 CZ E.ws jl.1 jl.2 hn (by omega) hbs yx).mono ?_;rintro ev w3⟨rfl,Q',v',ET,h3,lA,zY,hw3,hL3,Ac⟩;refine⟨by rw[e1],⟨X',F,ym,U,S',P',Q',_,_,h3,⟨zY,hw3,?_,hL3,Ac,by have:=E.q;show ax.q+1<=n+1;omega,by show ax.last+1<=n+1;omega,by have:=E.cnt;show ax.n+1<=n+1;omega,E.jw,E.sz,xZ E.w2 (yx.w2 E.j hSP.d.k h.q.p.k)⟩⟩,lA⟩;exact E.gp.add (h.k.xY hSP.k) (λz hz=>(h.t.le z hz).2.1) rfl rfl (by rw[E.gp.sz]) rfl
 ·refine⟨_,_,_,rfl,⟨_,_,_,rfl,rfl,eL 7 (by omega)⟩,λ_ _ J hK=>az.b hK J,λ_ hK=>az.low hK,h.pgr hSP nH,nH.lf,λw2 hK=>?_⟩;refine(xV hp hK E.j E.L E.ab6 CZ E.ws jl.1 jl.2 hn vX).mono ?_;rintro ev w3⟨rfl,Q',h3,lA,zY,hw3,Ac⟩;exact⟨rfl,⟨X,F,ym,U,S',_,Q',_,_,h3,⟨zY,hw3,E.gp,rfl,Ac,by have:=E.q;omega,by omega,by have:=E.cnt;omega,E.jw,E.sz,E.w2⟩⟩,lA⟩
theorem EU (hp:wR x.p)(Hh:11<x.p.C.w0.heap.size)(h:lZ x n w)(hn:n<=150)(a y:Int)(ht:(Lit.int .i64 t).wf=true):B2 x n 39 #[.pointer (some ⟨x.s,0,none⟩),.int .i64 a,.int .i64 y,.int .i64 t] 114 #[.pointer (some ⟨x.ms,0,none⟩),.int .i64 a,.int .i64 y,.int .i64 t] (ER x.p.e) w:=by
 obtain⟨X,F,ym,U,S,P,ab5,ax,R,h,E⟩:=h;have e1:=E.gp.last;have CZ:=h.q.p.k.fa;have hlast:=E.last;have he:dM w x.p.e:=hp.he.below h.low;have hbs:R.bs.length<1000:=by rw[<- h.t.len,<- E.gp.n];have:=E.cnt;omega
 cases hf:ax.f t with
 |none=>exact h.both E ⟨_,_,_,rfl,rfl,eL 3 (by omega)⟩ (vZ h.k he ht hf a y) (λW hK=>mf (uE hK.t (hK.gone E.gp hf) a y))
 |some b =>
 obtain⟨i,c,il,a1,a2,a3,s1,s2,s3⟩:=h.row E.gp hf;have hkb:=h.k.k t b hf;by_cases G:(ax.g b).n=1
 ·exact h.both E ⟨_,_,_,rfl,rfl,ig⟩ (mf (zb h.k ht hf G a y)) (λW hK=>mf (w9 hK.t a1 a2 a3 (by omega) a y))
 have Qz:1<(ax.g b).n:=by have:=hkb.2.2.2.2.2.2.1;omega
 have hgx:1<il.n:=by omega
 by_cases jl:(0<=a/\a<S.ws.length)/\(0<=y/\y<x.p.C.k);case neg =>
  refine(zX h.sp (a:=x.p.e 1) (ab9:=λW=>az x.p.B x.p.C x.p.M x.p.Y F ym x.p.aK x.s x.m x.ms U l_ X S S P ab5 ax R W/\LF l_ w W) (λW W' J D=>⟨D.1.b J,D.2.trans (lv J)⟩) ((pR h.sp hp.he (BF hp jl)).mono (λev w1 G=>⟨G.1,h.pgr G.2.1 G.2.2,G.2.2.lf⟩)) ht hf Qz).mono ?_;rintro ev w1⟨rfl,WE,KG⟩;refine⟨_,_,_,rfl,⟨_,_,_,rfl,rfl,eL 1 (by omega)⟩,λ_ _ J hK=>az.b hK J,λ_ hK=>az.low hK,WE,KG,λw2 hK=>?_⟩;refine(sO hK.t a1 a2 a3 hgx (r:=2) (by omega) (ab9:=λW=>az x.p.B x.p.C x.p.M x.p.Y F ym x.p.aK x.s x.m x.ms U l_ X S S P ab5 ax R W/\LF l_ w2 W) ((nY hK.t (r:=2) (by omega) (ab9:=λW=>az x.p.B x.p.C x.p.M x.p.Y F ym x.p.aK x.s x.m x.ms U l_ X S S P ab5 ax R W/\LF l_ w2 W) (λW W' J D=>⟨D.1.b J,D.2.trans (lv J)⟩) ((yN hK.q.r E.j.e7 jl).mono (λev w3 h3=>⟨h3.1,hK.t.b h3.2,hK.b h3.2,lv h3.2⟩))).mono (λev w3 h3=>⟨h3.1,h3.2.2⟩))).mono ?_;rintro ev w3⟨rfl,h3,h4⟩;exact⟨rfl,⟨X,F,ym,U,S,P,ab5,ax,R,h3,E.next⟩,h4⟩
 case pos =>
 refine(EC h.sp (CW x.p.C S P a y) (EM x.p.C S P a y) (by have:=E.q;omega) (by omega) (oJ h.sp hp.he Hh (CW x.p.C S P a y) (EM x.p.C S P a y) (by have:=E.q;omega) (by omega) (EN hp E.j E.L E.ab6 hn jl.1 jl.2)) ht hf Qz).mono ?_;rintro ev w1(⟨rfl,o,S',P',b',q',X',yx,LP,nH,hSP⟩|⟨rfl,S',P',ic,vX,nH,hSP⟩)
 ·refine⟨_,_,_,rfl,⟨_,_,_,rfl,rfl,ig⟩,λ_ _ J hK=>az.b hK J,λ_ hK=>az.low hK,h.pgr hSP nH,nH.lf,λw2 hK=>?_⟩;refine(xA hK.t a1 a2 a3 hgx (u:=a) (y:=y) (ab9:=λo1 v' c W=>o1=o/\∃Q',az x.p.B x.p.C x.p.M x.p.Y F ym x.p.aK x.s x.m x.ms U l_ X' S' S' P' Q' {ax with last:=ax.last+1,q:=ax.q+1,n:=ax.n+1,f:=mE ax.f ((ax.last:Int)+1) (some b'),g:=ma (ma ax.g b' ⟨o,(ax.g b).l,1,q'⟩) b {ax.g b with n:=(ax.g b).n-1}} {R with last:=R.last+1,v:=v',bs:=R.bs++[c],ab2:=R.ab2++[⟨R.last+1,o1,List.replicate R.sz 0,1⟩]} W/\LF l_ w2 W/\PJ x.p.C S' P' Q' (n+1)/\S'.ws.length=2/\P'.L=[]/\P'.ab6=[]) ((xU hp hK E.j E.L E.ab6 CZ E.ws jl.1 jl.2 hn (by omega) hbs yx).mono ?_)).mono ?_
  ·rintro ev w3⟨rfl,Q',v',ET,h3,h4⟩;exact⟨rfl,o,v',ET,⟨rfl,Q',h3,h4⟩,h3.t⟩
  rintro ev w4⟨rfl,o1,v',c1,w3,⟨rfl,Q',h3,lA,zY,hw3,hL3,Ac⟩,h4,hk4⟩;have AO:=h.k.xY hSP.k;have Vc:=E.gp.set (x':={il with n:=il.n-1}) (y:={ax.g b with n:=(ax.g b).n-1}) h.k.inj hK.once hf a2 a3 rfl s1 s2 (by simp only;omega);have hja:=Vc.add (b:=b') (y:=⟨o1,(ax.g b).l,1,q'⟩) (x':=⟨R.last+1,o1,il.l,1⟩) (v':=v') (pD:=R.bs++[c1]) (q:=ax.q+1) AO (λz hz=>by
   rcases gK hz with hz|rfl
   ·exact(h.t.le z hz).2.1
   ·exact(h.t.le il (aH a2)).2.1) rfl rfl s2 rfl
  simp only at hja;rw[xW LP.symm]at hja;refine⟨by rw[e1],⟨X',F,ym,U,S',P',Q',_,_,h3.uJ hk4 h4,⟨zY,hw3,hja,hL3,Ac,by have:=E.q;show ax.q+1<=n+1;omega,by show ax.last+1<=n+1;omega,by have:=E.cnt;show ax.n+1<=n+1;omega,E.jw,E.sz,λt' d hd=>?_⟩⟩,lA.trans (h3.BB hk4 (λ_ J=>δ (δ J)))⟩;by_cases ed:d=b
  ·subst ed;show W2 (ma _ d _ d).o.1 (ma _ d _ d).o.2;rw[lU];exact E.w2 t d hf
  ·show W2 (ma _ b _ d).o.1 (ma _ b _ d).o.2;rw[lF ed];exact xZ E.w2 (y':=⟨o1,(ax.g b).l,1,q'⟩) (yx.w2 E.j hSP.d.k h.q.p.k) t' d hd
 ·refine⟨_,_,_,rfl,⟨_,_,_,rfl,rfl,eL 7 (by omega)⟩,λ_ _ J hK=>az.b hK J,λ_ hK=>az.low hK,h.pgr hSP nH,nH.lf,λw2 hK=>?_⟩;refine(sO hK.t a1 a2 a3 hgx (r:=8) (by omega) ((xV hp hK E.j E.L E.ab6 CZ E.ws jl.1 jl.2 hn vX).mono (λev w3 h3=>⟨h3.1,h3.2⟩))).mono ?_;rintro ev w3⟨rfl,Q',h3,lA,zY,hw3,Ac⟩;exact⟨rfl,⟨X,F,ym,U,S',_,Q',_,_,h3,⟨zY,hw3,E.gp,rfl,Ac,by have:=E.q;omega,by omega,by have:=E.cnt;omega,E.jw,E.sz,E.w2⟩⟩,lA⟩
theorem C8 (hp:wR x.p)(h:az x.p.B x.p.C x.p.M x.p.Y F ym x.p.aK x.s x.m x.ms U l_ X S' S P' ab5 Z' R w)(E:PJ x.p.C S P ab5 n)(hL:P.L=[])(hY:P.ab6=[])(hF:FA x.p.C S)(dR:S.ws.length=2)(hx:0<=a/\a<S.ws.length)(hn:n<=150)(hG:uH x.p.C S P a o r S' P'):
  Calls prog 24 #[.pointer (some ⟨x.p.aK,0,none⟩),.int .i64 a,.agg #[.int .i64 o.1,.int .i64 o.2]] w λev w'=>(∃r:Int,ev=.returned (.int .i64 r))/\∃(Q':Rs) (U':Nat->Prop),az x.p.B x.p.C x.p.M x.p.Y F ym x.p.aK x.s x.m x.ms U' l_ X S' S' P' Q' Z' R w'/\LF l_ w w'/\PJ x.p.C S' P' Q' (n+1)/\S'.ws.length=2/\P'.L=[]/\P'.ab6=[]:=by
 have N5:S.ab5<=1000:=by have:=E.ab5;omega
 cases hG with
 |bound mN=>exact absurd hx mN
 |lV hx ho =>
  have KX:o∉ab5.T:=λhm=>ho ⟨by rw[<- E.e3];exact hm,E.out o (by rw[E.e3]at hm;simp[hm])⟩;refine(zh h.q.r E.e7 hx KX (by rw[E.e3];have:=E.tl;omega)).mono ?_;rintro ev w3⟨rfl,J⟩;exact⟨⟨_,rfl⟩,ab5,U,h.b J,lv J,E.next,dR,hL,hY⟩
 |no m S' P' hx ho hi z_ =>
  cases z_ with
  |full r S' hL hr hg=>cases DO hx hi hg
 |yes S' P' hx ho hi z_ =>
  obtain⟨ab9,M,hT⟩:=List.append_of_mem ho;have hK:o∉ab9:=λhm=>by
   have G:=(aF.1 (aF.1 E.V).2.1).1;rw[hT]at G;exact(aF.1 G).2.2 o hm o (by simp) rfl
  have hRT:ab5.T=ab9++o::M:=E.e3.trans hT;have BP:ab5.T.length<1000:=by rw[E.e3];have:=E.tl;omega
  cases z_ with
  |line t L ic hL'=>rw[hL]at hL';cases hL'
  |room rR _ hr =>
   refine(sg h.q.r E.e7 hx hRT hK BP (E.e4.trans hL) (by rw[E.e1,E.e2];exact hr) (by rw[E.e1];exact E.most)).mono ?_;rintro ev w3⟨rfl,ie,DT,pO,hf⟩;obtain⟨j1,j2,j3⟩:=E.drop (ie:=ie) hT hK;exact⟨⟨_,rfl⟩,_,_,h.ref hp.hN pO hf,hf.lf h.q.r h.q.bo,j1.room (rR:=rR) (DT:=DT) j2 j3 hr,dR,hL,hY⟩
  |full r S' _ hr hg =>
   refine(si h.q.r E.e7 hx hRT hK BP (E.e4.trans hL) (by rw[E.e1,E.e2];exact hr) hF N5 (by omega) hg).mono ?_;rintro ev w3⟨rfl,ie,U',pO,hf⟩;obtain⟨j1,j2,j3⟩:=E.drop (ie:=ie) hT hK;exact⟨⟨_,rfl⟩,_,_,h.ref hp.hN pO hf,hf.lf h.q.r h.q.bo,j1.full j2 hF hg,(hg.wl hF).trans dR,hL,hY⟩
theorem Di (hp:wR x.p)(h:lZ x n w)(hn:n<=150)(a:Int)(ht:(Lit.int .i64 t).wf=true):B2 x n 42 #[.pointer (some ⟨x.s,0,none⟩),.int .i64 a,.int .i64 t] 110 #[.pointer (some ⟨x.ms,0,none⟩),.int .i64 a,.int .i64 t] (Ga x.p.e) w:=by
 obtain⟨X,F,ym,U,S,P,ab5,ax,R,h,E⟩:=h;have he:dM w x.p.e:=hp.he.below h.low;have CZ:=h.q.p.k.fa;cases hf:ax.f t with
 |none=>exact h.both E ⟨_,rfl,eL 3 (by omega)⟩ (mf (ug h.k he ht hf a)) (λW hK=>mf (qH hK.t (hK.gone E.gp hf) a))
 |some b =>
 obtain⟨i,c,il,a1,a2,a3,s1,s2,s3⟩:=h.row E.gp hf;have hkb:=h.k.k t b hf;by_cases hx:0<=a/\a<S.ws.length;case neg=>exact h.both E ⟨_,rfl,eL 1 (by omega)⟩ (mf (qc h.k he ht hf (by rw[E.jw];rw[E.ws]at hx;exact hx))) (λW hK=>mf (o8 hK.t hK.q.r (hK.t.fn a1 a2 a3) hx))
 case pos =>
 have hxz:0<=a/\a<ax.ws:=by rw[E.jw];rw[E.ws]at hx;exact hx
 by_cases G:1<(ax.g b).n
 ·refine(ui h.k ht hf hxz G).mono ?_;rintro ev w1⟨rfl,rf,hZ⟩;have TT:Kp (qa x.p.C.w0.heap.size x.m w) w w1:=by rw[rf];exact Kp.set w b 3 _ (h.EA hf)
  refine⟨_,_,_,rfl,⟨_,rfl,ig⟩,λ_ _ J hK=>az.b hK J,λ_ hK=>az.low hK,h.own TT hZ,h.xM TT,λw2 hK=>?_⟩;refine(qW hK.t hK.q.r a1 a2 a3 hx (by omega)).mono ?_;rintro ev w3⟨rfl,h3,D⟩;exact⟨rfl,⟨_,F,ym,U,S,P,ab5,_,_,hK.uJ D h3,E.set h.k.inj hK.once hf a2 a3 rfl rfl rfl s2 (by simp only;omega)⟩,hK.BB D (λ_ J=>δ (δ J))⟩
 ·have Lt:(ax.g b).n=1:=by have:=hkb.2.2.2.2.2.2.1;omega
  refine(Cv h.sp hp.hN hp.he (E.j.pi (by omega)) ht hf hxz Lt (E.w2 t b hf)).mono ?_;rintro ev w1⟨rfl,r,S',P',X',hG,nH,hSP⟩;refine⟨_,_,_,rfl,⟨_,rfl,ig⟩,λ_ _ J hK=>az.b hK J,λ_ hK=>az.low hK,h.pgr hSP nH,nH.lf,λw2 hK=>?_⟩;have hro:∀j,(j=x.ms\/j∈R.bs)->RO x.ms R j:=λj E=>by
   rcases E with E|E
   ·exact ε E
   ·exact δ (δ E)
  refine(ry hK.t hK.q.r a1 a2 a3 hx (by omega) (ab9:=λW=>Kp (λj=>j=x.ms\/j∈R.bs) w2 W) (K':=λW=>∃(v':Value) (Q':Rs) (U':Nat->Prop),az x.p.B x.p.C x.p.M x.p.Y F ym x.p.aK x.s x.m x.ms U' l_ X' S' S' P' Q' {ax with f:=mE ax.f t none,n:=ax.n-1} {R with v:=v',bs:=R.bs.eraseIdx i,ab2:=R.ab2.eraseIdx i} W/\LF l_ w2 W/\PJ x.p.C S' P' Q' (n+1)/\S'.ws.length=2/\P'.L=[]/\P'.ab6=[]) (λW D=>D) (λW v' hR D=>?_)).mono ?_
  ·have h3:=hK.xJ D (λj E=>hK.t.kinds (hro j E)) (λj E=>(hK.t.lt (hro j E)).2) hR;rw[<- s1];refine(C8 hp h3 E.j E.L E.ab6 CZ E.ws hx hn hG).mono ?_;rintro ev w3⟨hr,Q',U',h4,lA,h5⟩;exact⟨hr,h4.t,v',Q',U',h4,(hK.BB D hro).trans lA,h5⟩
  ·rintro ev w3⟨rfl,_,_,v',Q',U',h3,lA,zY,hw3,hL3,Ac⟩;refine⟨rfl,⟨X',F,ym,U',S',P',Q',_,_,h3,⟨zY,hw3,E.gp.del hK.once hf a2 a3,hL3,Ac,by have:=E.q;show ax.q<=n+1;omega,by have:=E.last;show ax.last<=n+1;omega,by have:=E.cnt;show ax.n-1<=n+1;omega,E.jw,E.sz,λt' d hd=>?_⟩⟩,lA⟩;have K_:mE ax.f t none t'=some d:=hd;unfold mE at K_;split at K_
   ·cases K_
   ·exact E.w2 t' d K_
end
end Pl
end Go.Proofs.YtcbmfakjfoggaaaGreatDoor
