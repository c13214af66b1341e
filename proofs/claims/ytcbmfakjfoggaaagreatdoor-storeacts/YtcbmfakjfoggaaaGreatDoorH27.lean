/- H27 -/
import Derived.Test.YtcbmfakjfoggaaaGreatDoorA0
import Derived.Test.YtcbmfakjfoggaaaGreatDoorH24
import Derived.Test.YtcbmfakjfoggaaaGreatDoorH25
set_option maxHeartbeats 0
set_option maxRecDepth 100000
namespace Go.Proofs.YtcbmfakjfoggaaaGreatDoor
open _root_.Go.Proofs.Tryz Go.RowKit Go.Maps
namespace Rd
open Fr Bd Zn Dz Sb Mg
def OS (U:Nat->Prop)(w:World)(v:Value)(xs:List Bl):Prop:=(v=.slice none 0 0/\xs=[])\/∃b cp,v=.slice (some ⟨b,0,none⟩) xs.length cp/\xs.length<=cp/\cp<=maxLen/\U b/\b<w.heap.size/\∀j u,(flat xs)[j]?=some u->w.cell? ⟨b,j,none⟩=some u
section
variable {U ab7:Nat->Prop}{w w':World}{v:Value}{xs:List Bl}
theorem OS.keep (h:OS U w v xs)(J:∀k,U k->w'.heap[k]?=w.heap[k]?)(hz:w.heap.size<=w'.heap.size)(hv:∀k,U k->ab7 k):OS ab7 w' v xs:=by
 rcases h with h|⟨b,cp,G,O,h3,h4,h5,h6⟩
 ·exact ε h
 ·exact δ ⟨b,cp,G,O,h3,hv b h4,ι h5 hz,λj u hu=>(η (w:=w) (a:=⟨b,j,none⟩) (J b h4)).trans (h6 j u hu)⟩
theorem OS.b (h:OS U w v xs)(J:Below w.heap.size w w'):OS U w' v xs:=by
 rcases h with h|⟨b,cp,G,O,h3,h4,h5,h6⟩
 ·exact ε h
 ·exact δ ⟨b,cp,G,O,h3,h4,ι h5 J.size,λj u hu=>(J.cell (p:=⟨b,j,none⟩) h5).trans (h6 j u hu)⟩
theorem OS.own {B k:Nat}(h:w.ownsRow B 34 2 v k (flat xs))(D:k=xs.length)(hU:∀j,OB v j->U j):OS U w v xs:=by
 subst D;rcases id h.2 with⟨G,O⟩|⟨g,cap,cur,rfl,J,hg,hle,gB,_⟩
 ·exact ε ⟨G,bf.1 O⟩
 ·refine δ ⟨g,cap,rfl,hle,gB,hU g rfl,(h.lt g rfl).2,λj u hu=>?_⟩;have E:=(ν.1 hu).1;rw[cd]at E;exact(h.cellAt j (by omega)).trans hu
theorem OS.len (h:OS U w v xs):∃p cp,v=.slice p xs.length cp/\xs.length<=cp:=by
 rcases h with⟨G,O⟩|⟨b,cp,G,O,_⟩
 ·subst O;exact⟨none,0,G,ζ _⟩
 ·exact⟨_,cp,G,O⟩
theorem OS.last {o:Bl}(h:OS U w v (xs++[o])):∃b cp,v=.slice (some ⟨b,0,none⟩) (xs.length+1) cp/\xs.length<cp/\U b/\b<w.heap.size/\w.cell? ⟨b,xs.length*2,none⟩=some (.int .i64 o.1)/\w.cell? ⟨b,xs.length*2+1,none⟩=some (.int .i64 o.2)/\OS U w (.slice (some ⟨b,0,none⟩) xs.length cp) xs:=by
 rcases h with⟨_,h⟩|⟨b,cp,G,O,h3,h4,h5,h6⟩
 ·exact absurd h (by simp)
 ·have e:flat (xs++[o])=flat xs++[.int .i64 o.1,.int .i64 o.2]:=dP xs o;have hl:=cd xs;simp only[φ,ag]at G O;refine⟨b,cp,G,by omega,h4,h5,?_,?_,δ ⟨b,cp,rfl,by omega,h3,h4,h5,λj u hu=>h6 j u ?_⟩⟩
  ·refine h6 _ _ ?_;rw[e,aq (by omega)];simp[hl]
  ·refine h6 _ _ ?_;rw[e,aq (by omega),show xs.length*2+1-(flat xs).length=1 from by omega];simp
  ·rw[e,ar (ν.1 hu).1];exact hu
end
def PV (U:Nat->Prop)(w:World)(v:Value)(P:List (List Bl)):Prop:=(v=.slice none 0 0/\P=[])\/∃b cp,v=.slice (some ⟨b,0,none⟩) P.length cp/\P.length<=cp/\cp<=maxLen/\Tag w b 32/\∀i xs,P[i]?=some xs->∃u,w.cell? ⟨b,i,none⟩=some u/\OS U w u xs
structure RD (N1:Nat)(U:Nat->Prop)(w:World)(rd rc J:Nat)(H:List (List Bl×List Bl))(P:List (List Bl)):Prop where
 c0:w.cell? ⟨rd,0,none⟩=some (ptr rc)
 c1:∃cp,w.cell? ⟨rd,1,none⟩=some (.slice (some ⟨J,0,none⟩) H.length cp)
 c2:∃v,w.cell? ⟨rd,2,none⟩=some v/\PV U w v P
 hd:∀(i:Nat) (a b:List Bl),H[i]?=some (a,b)->∃v1 v2,w.cell? ⟨J,i*2,none⟩=some v1/\w.cell? ⟨J,i*2+1,none⟩=some v2/\OS U w v1 a/\OS U w v2 b
 tg:Tag w rd 164
 th:Tag w J 185
 ge:N1<=rd
 gh:N1<=J
 fd:∀o,w.frozen? ⟨rd,o,none⟩=false
 fh:∀o,w.frozen? ⟨J,o,none⟩=false
section
variable {N1:Nat}{U ab7:Nat->Prop}{w w':World}{rd rc J:Nat}{H:List (List Bl×List Bl)}{P:List (List Bl)}{v:Value}
theorem PV.keep (h:PV U w v P)(J:∀k,U k->w'.heap[k]?=w.heap[k]?)(hs:Sb.eh [32] w w')(hz:w.heap.size<=w'.heap.size)(hv:∀k,U k->ab7 k):PV ab7 w' v P:=by
 rcases h with h|⟨b,cp,G,O,h3,h4,h5⟩
 ·exact ε h
 ·refine δ ⟨b,cp,G,O,h3,cY hs (by simp) h4,λi xs hi=>?_⟩;obtain⟨u,e1,e2⟩:=h5 i xs hi;exact⟨u,(bN hs (by simp) h4 i).trans e1,e2.keep J hz hv⟩
theorem RD.keep (h:RD N1 U w rd rc J H P)(D:∀k,U k->w'.heap[k]?=w.heap[k]?)(hs:Sb.eh [164,185,32] w w')(hz:w.heap.size<=w'.heap.size)(hv:∀k,U k->ab7 k):RD N1 ab7 w' rd rc J H P:=by
 have K:=λj=>bN hs (by simp) h.tg j;have hh:=λj=>bN hs (by simp) h.th j;obtain⟨cp,e1⟩:=h.c1;obtain⟨v,e2,e3⟩:=h.c2;refine⟨(K 0).trans h.c0,⟨cp,(K 1).trans e1⟩,⟨v,(K 2).trans e2,e3.keep D (λb t hm ht=>hs b t (by simp at hm;simp[hm]) ht) hz hv⟩,λi a b hi=>?_,cY hs (by simp) h.tg,cY hs (by simp) h.th,h.ge,h.gh,λo=>(π (w:=w) (a:=⟨rd,o,none⟩) (hs rd 164 (by simp) h.tg)).trans (h.fd o),λo=>(π (w:=w) (a:=⟨J,o,none⟩) (hs J 185 (by simp) h.th)).trans (h.fh o)⟩;obtain⟨v1,v2,x1,x2,x3,x4⟩:=h.hd i a b hi;exact⟨v1,v2,(hh _).trans x1,(hh _).trans x2,x3.keep D hz hv,x4.keep D hz hv⟩
theorem RD.b (h:RD N1 U w rd rc J H P)(hU:∀k,U k->Tag w k 34)(hb':Below w.heap.size w w'):RD N1 U w' rd rc J H P:=h.keep (λk D=>hb'.block k (hU k D).lt) (eo hb') hb'.size (λ_ h=>h)
theorem RD.uk (h:RD N1 U w rd rc J H P)(hu:UK U w w'):RD N1 U w' rd rc J H P:=h.keep hu.u (λb t hm ht=>hu.s b t (by simp at hm;rcases hm with rfl|rfl|rfl<;>simp) ht) hu.z (λ_ h=>h)
theorem RD.n_ (h:RD N1 U w rd rc J H P)(hU:∀k,U k->Tag w k 34){ts:List (Option TypeId)}{N:Nat}(K:bD ts N w w')(hn:∀t∈([164,185,32,34]:List TypeId),some t∉ts):RD N1 U w' rd rc J H P :=
 h.keep (λk D=>K.same (hU k D) (hn 34 (by simp))) (K.ep (λt ht=>hn t (by simp at ht;rcases ht with rfl|rfl|rfl<;>simp))) K.size (λ_ h=>h)
theorem RD.put (h:RD N1 U w rd rc J H P)(hU:∀k,U k->Tag w k 34){i:Nat}(hi:i<H.length){v1 v2:Value}{a b:List Bl}(G:OS U w v1 a)(O:OS U w v2 b):RD N1 U ((w.setCell ⟨J,i*2,none⟩ v1).setCell ⟨J,i*2+1,none⟩ v2) rd rc J (H.set i (a,b)) P/\bD [some 185] N1 w ((w.setCell ⟨J,i*2,none⟩ v1).setCell ⟨J,i*2+1,none⟩ v2):=by
 have hc1:bD [some 185] N1 w (w.setCell ⟨J,i*2,none⟩ v1):=bD.set h.th h.gh _ _;have K:bD [some 185] N1 w ((w.setCell ⟨J,i*2,none⟩ v1).setCell ⟨J,i*2+1,none⟩ v2):=hc1.trans (bD.set (h.th.set _ _) h.gh _ _);have D:∀k,U k->((w.setCell ⟨J,i*2,none⟩ v1).setCell ⟨J,i*2+1,none⟩ v2).heap[k]?=w.heap[k]?:=λk D=>K.same (hU k D) (by decide);have hs:Sb.eh [164,32] w ((w.setCell ⟨J,i*2,none⟩ v1).setCell ⟨J,i*2+1,none⟩ v2):=K.ep (by decide);have eR:=λj=>bN hs (by simp) h.tg j;obtain⟨cp,e1⟩:=h.c1;obtain⟨v,e2,e3⟩:=h.c2;obtain⟨a0,b0,e0⟩:∃a0 b0,H[i]?=some (a0,b0):=⟨_,_,ξ hi⟩;obtain⟨u1,u2,y1,y2,_,_⟩:=h.hd i a0 b0 e0;refine⟨⟨(eR 0).trans h.c0,⟨cp,by rw[dp];exact(eR 1).trans e1⟩,⟨v,(eR 2).trans e2,e3.keep D (K.ep (by decide)) K.size (λ_ h=>h)⟩,λj a' b' E=>?_,(h.tg.blk (hs rd 164 (by simp) h.tg)),(h.th.set _ _).set _ _,h.ge,h.gh,λo=>(π (w:=w) (a:=⟨rd,o,none⟩) (hs rd 164 (by simp) h.tg)).trans (h.fd o),λo=>by rw[Ψ,Ψ];exact h.fh o⟩,K⟩;by_cases e:j=i
 ·subst e;rw[aP hi]at E;cases E
  exact⟨v1,v2,(bu (by simp)).trans (fK y1),fK ((bu (by simp)).trans y2),G.keep D K.size (λ_ h=>h),O.keep D K.size (λ_ h=>h)⟩
 ·rw[cL (cV e)]at E;obtain⟨z1,z2,x1,x2,x3,x4⟩:=h.hd j a' b' E;exact⟨z1,z2,(bu (by simp<;>omega)).trans ((bu (by simp<;>omega)).trans x1),(bu (by simp<;>omega)).trans ((bu (by simp<;>omega)).trans x2),x3.keep D K.size (λ_ h=>h),x4.keep D K.size (λ_ h=>h)⟩
theorem RD.xX (h:RD N1 U w rd rc J H P)(hU:∀k,U k->Tag w k 34){v':Value}{P':List (List Bl)}(hp:PV U w v' P'):RD N1 U (w.setCell ⟨rd,2,none⟩ v') rd rc J H P'/\bD [some 164] N1 w (w.setCell ⟨rd,2,none⟩ v'):=by
 have K:bD [some 164] N1 w (w.setCell ⟨rd,2,none⟩ v'):=bD.set h.tg h.ge _ _;have D:∀k,U k->(w.setCell ⟨rd,2,none⟩ v').heap[k]?=w.heap[k]?:=λk D=>K.same (hU k D) (by decide);have hs:Sb.eh [185] w (w.setCell ⟨rd,2,none⟩ v'):=K.ep (by decide);have hh:=λj=>bN hs (by simp) h.th j;obtain⟨cp,e1⟩:=h.c1;obtain⟨v,e2,e3⟩:=h.c2;refine⟨⟨(bu (by simp)).trans h.c0,⟨cp,(bu (by simp)).trans e1⟩,⟨v',fK e2,hp.keep D (K.ep (by decide)) K.size (λ_ h=>h)⟩,λi a b hi=>?_,h.tg.set _ _,h.th.blk (hs J 185 (by simp) h.th),h.ge,h.gh,λo=>by rw[Ψ];exact h.fd o,λo=>(π (w:=w) (a:=⟨J,o,none⟩) (hs J 185 (by simp) h.th)).trans (h.fh o)⟩,K⟩;obtain⟨v1,v2,x1,x2,x3,x4⟩:=h.hd i a b hi;exact⟨v1,v2,(hh _).trans x1,(hh _).trans x2,x3.keep D K.size (λ_ h=>h),x4.keep D K.size (λ_ h=>h)⟩
end
section
variable {N1:Nat}{U:Nat->Prop}{w w':World}{rd rc J:Nat}{H:List (List Bl×List Bl)}{P:List (List Bl)}{v:Value}
theorem oq (h:RD N1 U w rd rc J H P){i:Nat}(hi:i<H.length):
  Calls prog 88 #[.pointer (some ⟨rd,0,none⟩),.int .i64 (i:Int)] w λev w'=>ev=.returned (.bool true)/\w'=w:=by
 obtain⟨cp,e1⟩:=h.c1;have d1:decide ((i:Int)>=0)=true:=by simp
 have d2:decide ((i:Int)<H.length)=true:=by simp;omega
 have d0:(0:Int)<=i:=by omega
 have d3:(i:Int)<H.length:=by omega
 clear h;go_enter func88,ntmps88;go_wp2;go_ret;exact⟨rfl,rfl⟩
theorem Bb (h:RD N1 U w rd rc J H P){x:Int}(hx:x<0\/(H.length:Int)<=x):
  Calls prog 88 #[.pointer (some ⟨rd,0,none⟩),.int .i64 x] w λev w'=>ev=.returned (.bool false)/\w'=w:=by
 obtain⟨cp,e1⟩:=h.c1;clear h;by_cases h0:x<0
 ·have d1:decide (x>=0)=false:=by simp;omega
  go_enter func88,ntmps88;go_wp2;go_ret;exact⟨rfl,rfl⟩
 ·have d0:0<=x:=by omega
  have d1:decide (x>=0)=true:=by simp;omega
  have d2:decide (x<(H.length:Int))=false:=by simp;omega
  have d3:¬x<(H.length:Int):=by omega
  go_enter func88,ntmps88;go_wp2;go_ret;exact⟨rfl,rfl⟩
structure B2 (w:World)(p:Nat)(u v:Value):Prop where
 c0:w.cell? ⟨p,0,none⟩=some u
 c1:w.cell? ⟨p,1,none⟩=some v
 fz:∀o,w.frozen? ⟨p,o,none⟩=false
 lt:p<w.heap.size
theorem B2.new (w:World)(u v:Value)(t:TypeId):B2 (w.alloc (.cells #[u,v] t)) w.heap.size u v:=by
 have q:=θ w #[u,v] t;exact⟨q 0,q 1,λo=>aG _ _ w.heap.size o rfl,by simp⟩
theorem B2.b {p:Nat}{u v:Value}(h:B2 w p u v)(J:Below w.heap.size w w'):B2 w' p u v:=⟨(J.cell (p:=⟨p,0,none⟩) h.lt).trans h.c0,(J.cell (p:=⟨p,1,none⟩) h.lt).trans h.c1,λo=>(J.frozen (p:=⟨p,o,none⟩) h.lt).trans (h.fz o),ι h.lt J.size⟩
theorem B2.ny {p:Nat}{u v:Value}(h:B2 w p u v)(u':Value):B2 (w.setCell ⟨p,0,none⟩ u') p u' v:=⟨fK h.c0,(bu (by simp)).trans h.c1,λo=>by rw[Ψ];exact h.fz o,by simpa[World.setCell]using h.lt⟩
theorem B2.ND {p:Nat}{u v:Value}(h:B2 w p u v)(v':Value):B2 (w.setCell ⟨p,1,none⟩ v') p u v':=⟨(bu (by simp)).trans h.c0,fK h.c1,λo=>by rw[Ψ];exact h.fz o,by simpa[World.setCell]using h.lt⟩
theorem B2.off {p:Nat}{u v:Value}(h:B2 w p u v){a:Addr}(hne:a.block≠p)(x:Value):B2 (w.setCell a x) p u v:=⟨(bu (λe=>hne (by rw[e]))).trans h.c0,(bu (λe=>hne (by rw[e]))).trans h.c1,λo=>by rw[Ψ];exact h.fz o,by simpa[World.setCell]using h.lt⟩
theorem RD.Fs (h:RD N1 U w rd rc J H P){p:Nat}{t:TypeId}(hp:Tag w p t)(ht:t≠32)(G:p≠rd)(O:p≠J)(h3:¬U p)(o:Nat)(x:Value):RD N1 U (w.setCell ⟨p,o,none⟩ x) rd rc J H P:=by
 have D:∀k,U k->(w.setCell ⟨p,o,none⟩ x).heap[k]?=w.heap[k]?:=λk D=>μ _ _ _ _ (λe=>h3 (by simp only at e;rw[<- e];exact D));have hz:w.heap.size<=(w.setCell ⟨p,o,none⟩ x).heap.size:=by simp[World.setCell]
 have hs:Sb.eh [32] w (w.setCell ⟨p,o,none⟩ x):=λb t' hm hb'=>μ _ _ _ _ (λe=>by
  simp only at e;simp only[ae,aR,dg]at hm;rw[hm,e]at hb';exact hb'.ne hp (cV ht) rfl)
 have hr:(w.setCell ⟨p,o,none⟩ x).heap[rd]?=w.heap[rd]?:=μ _ _ _ _ (λe=>G e.symm);have hh:(w.setCell ⟨p,o,none⟩ x).heap[J]?=w.heap[J]?:=μ _ _ _ _ (λe=>O e.symm);have cr:=λj=>η (w:=w) (a:=⟨rd,j,none⟩) hr;have ch:=λj=>η (w:=w) (a:=⟨J,j,none⟩) hh;obtain⟨cp,e1⟩:=h.c1;obtain⟨v,e2,e3⟩:=h.c2;refine⟨(cr 0).trans h.c0,⟨cp,(cr 1).trans e1⟩,⟨v,(cr 2).trans e2,e3.keep D hs hz (λ_ h=>h)⟩,λi a b hi=>?_,h.tg.blk hr,h.th.blk hh,h.ge,h.gh,λj=>(π (w:=w) (a:=⟨rd,j,none⟩) hr).trans (h.fd j),λj=>(π (w:=w) (a:=⟨J,j,none⟩) hh).trans (h.fh j)⟩;obtain⟨v1,v2,x1,x2,x3,x4⟩:=h.hd i a b hi;exact⟨v1,v2,(ch _).trans x1,(ch _).trans x2,x3.keep D hz (λ_ h=>h),x4.keep D hz (λ_ h=>h)⟩
structure TW (N1:Nat)(U:Nat->Prop)(w:World)(rd rc J:Nat)(x0 y0:Int)(H:List (List Bl×List Bl))(P:List (List Bl))(p r:Nat)(v1 v2:Value)(W:World):Prop where
 d:RD N1 U W rd rc J H P
 ch:bD [some 164,some 185] N1 w W
 bx:B2 W p v1 v2
 tp:Tag W p 185
 gp:w.heap.size<=p
 rx:Rx W r (.int .i64 x0) (.int .i64 y0)
 gr:w.heap.size<=r
 lr:rd<w.heap.size/\J<w.heap.size
 hu:∀k,U k->Tag w k 34
variable {p r:Nat}{v1 v2:Value}{W W':World}{x0 y0:Int}
theorem TW.u (h:TW N1 U w rd rc J x0 y0 H P p r v1 v2 W):∀k,U k->Tag W k 34:=λk D=>(h.hu k D).blk (h.ch.same (h.hu k D) (by decide))
theorem TW.ne (h:TW N1 U w rd rc J x0 y0 H P p r v1 v2 W):p≠r:=h.tp.ne h.rx.tg (by decide)
theorem TW.b (h:TW N1 U w rd rc J x0 y0 H P p r v1 v2 W)(hb':Below W.heap.size W W'):TW N1 U w rd rc J x0 y0 H P p r v1 v2 W':=⟨h.d.b h.u hb',h.ch.trans (bD.below hb'),h.bx.b hb',h.tp.b hb',h.gp,h.rx.b hb',h.gr,h.lr,h.hu⟩
theorem TW.np (h:TW N1 U w rd rc J x0 y0 H P p r v1 v2 W):p≠rd/\p≠J/\¬U p:=⟨λe=>by have:=h.lr;have:=h.gp;omega,λe=>by have:=h.lr;have:=h.gp;omega,λhU=>by have:=(h.hu p hU).lt;have:=h.gp;omega⟩
theorem TW.ny (h:TW N1 U w rd rc J x0 y0 H P p r v1 v2 W)(v:Value):TW N1 U w rd rc J x0 y0 H P p r v v2 (W.setCell ⟨p,0,none⟩ v):=
 ⟨h.d.Fs h.tp (by decide) h.np.1 h.np.2.1 h.np.2.2 _ _,h.ch.fresh h.gp _ _,h.bx.ny v,h.tp.set _ _,h.gp,h.rx.blk (μ _ _ _ _ (λe=>h.ne e.symm)),h.gr,h.lr,h.hu⟩
theorem TW.ND (h:TW N1 U w rd rc J x0 y0 H P p r v1 v2 W)(v:Value):TW N1 U w rd rc J x0 y0 H P p r v1 v (W.setCell ⟨p,1,none⟩ v):=
 ⟨h.d.Fs h.tp (by decide) h.np.1 h.np.2.1 h.np.2.2 _ _,h.ch.fresh h.gp _ _,h.bx.ND v,h.tp.set _ _,h.gp,h.rx.blk (μ _ _ _ _ (λe=>h.ne e.symm)),h.gr,h.lr,h.hu⟩
theorem TW.iF (h:TW N1 U w rd rc J x0 y0 H P p r v1 v2 W){v':Value}{P':List (List Bl)}(hp:PV U W v' P'):TW N1 U w rd rc J x0 y0 H P' p r v1 v2 (W.setCell ⟨rd,2,none⟩ v'):=by
 obtain⟨G,O⟩:=h.d.xX h.u hp;exact⟨G,h.ch.trans (O.mono (by decide) (ζ _)),h.bx.off (λe=>h.np.1 e.symm) _,h.tp.set _ _,h.gp,h.rx.blk (μ _ _ _ _ (λe=>by have:=h.lr;have:=h.gr;simp only at e;omega)),h.gr,h.lr,h.hu⟩
theorem TW.hand (h:TW N1 U w rd rc J x0 y0 H P p r v1 v2 W){i:Nat}(hi:i<H.length){a b:List Bl}(G:OS U W v1 a)(O:OS U W v2 b):TW N1 U w rd rc J x0 y0 (H.set i (a,b)) P p r v1 v2 ((W.setCell ⟨J,i*2,none⟩ v1).setCell ⟨J,i*2+1,none⟩ v2):=by
 obtain⟨h3,h4⟩:=h.d.put h.u hi G O;have hr:J≠r:=λe=>by have:=h.lr;have:=h.gr;omega
 exact⟨h3,h.ch.trans (h4.mono (by decide) (ζ _)),(h.bx.off (λe=>h.np.2.1 e.symm) _).off (λe=>h.np.2.1 e.symm) _,(h.tp.set _ _).set _ _,h.gp,h.rx.blk ((μ _ _ _ _ (λe=>hr e.symm)).trans (μ _ _ _ _ (λe=>hr e.symm))),h.gr,h.lr,h.hu⟩
theorem TW.os {H':List (List Bl×List Bl)}{P':List (List Bl)}{v3 v4:Value}(h:TW N1 U w rd rc J x0 y0 H P p r v1 v2 W)(h':TW N1 U w rd rc J x0 y0 H' P' p r v3 v4 W'){xs:List Bl}(ho:OS U W v xs):OS U W' v xs:=by
 rcases ho with ho|⟨b,cp,x1,x2,x3,x4,x5,x6⟩
 ·exact ε ho
 ·exact δ ⟨b,cp,x1,x2,x3,x4,(h'.u b x4).lt,λj u hu=>(η (w:=W) (a:=⟨b,j,none⟩) ((h'.ch.same (h.hu b x4) (by decide)).trans (h.ch.same (h.hu b x4) (by decide)).symm)).trans (x6 j u hu)⟩
theorem TW.res (h:TW N1 U w rd rc J x0 y0 H P p r v1 v2 W)(x y:Value):RD N1 U ((W.setCell ⟨r,0,none⟩ x).setCell ⟨r,1,none⟩ y) rd rc J H P/\bD [some 164,some 185] N1 w ((W.setCell ⟨r,0,none⟩ x).setCell ⟨r,1,none⟩ y):=by
 have n1:r≠rd:=λe=>by have:=h.lr;have:=h.gr;omega
 have n2:r≠J:=λe=>by have:=h.lr;have:=h.gr;omega
 have n3:¬U r:=λhU=>by have:=(h.hu r hU).lt;have:=h.gr;omega
 exact⟨(h.d.Fs h.rx.tg (by decide) n1 n2 n3 _ _).Fs (h.rx.tg.set _ _) (by decide) n1 n2 n3 _ _,(h.ch.fresh h.gr _ _).fresh h.gr _ _⟩
inductive PH (a b:List Bl):List (List Bl)->List Bl->List Bl->List (List Bl)->Prop
 |keep (P:List (List Bl)) (h:a≠[]):PH a b P a b P
 |swap (P:List (List Bl)) (h:a=[]) (O:b≠[]):PH a b P b a P
 |iF (P:List (List Bl)) (t:List Bl) (h:a=[]) (O:b=[]):PH a b (P++[t]) t b P
theorem PV.top {t:List Bl}(h:PV U w v (P++[t])):∃b cp u,v=.slice (some ⟨b,0,none⟩) (P.length+1) cp/\P.length<cp/\w.cell? ⟨b,P.length,none⟩=some u/\OS U w u t/\PV U w (.slice (some ⟨b,0,none⟩) P.length cp) P:=by
 rcases h with⟨_,h⟩|⟨b,cp,G,O,h3,h4,h5⟩
 ·exact absurd h (by simp)
 ·simp only[φ,ag]at G O;obtain⟨u,e1,e2⟩:=h5 P.length t (by simp);refine⟨b,cp,u,G,by omega,e1,e2,δ ⟨b,cp,rfl,by omega,h3,h4,λi xs hi=>h5 i xs ?_⟩⟩;rw[ar (ν.1 hi).1];exact hi
end
section
variable {N1:Nat}{U:Nat->Prop}{w w':World}{rd rc J:Nat}{H:List (List Bl×List Bl)}{P:List (List Bl)}{v:Value}
theorem yy (h:RD N1 U w rd rc J H P)(hU:∀k,U k->Tag w k 34){i:Nat}{a b a' b':List Bl}{P':List (List Bl)}(hi:H[i]?=some (a,b))(hl:PH a b P a' b' P'){xs:List Bl}{oN oA:Int}(ha:a'=xs++[(oN,oA)])(hm:xs.length<=100)(hp:P.length<=1000000)(y:Int)(u:Bool):
  Calls prog 31 #[.pointer (some ⟨rd,0,none⟩),.int .i64 (i:Int),.int .i64 y,.bool u] w λev w'=>ev=.returned (.tuple #[.agg #[.int .i64 oN,.int .i64 oA],.int .i64 0])/\RD N1 U w' rd rc J (H.set i (xs,b')) P'/\bD [some 164,some 185] N1 w w':=by
 have ja:i<H.length:=(ν.1 hi).1;have F1:=χ (γ w.heap.size w) (cB 0 0);have R1:=cQ w;have D1:=h.b hU F1;have HW:=I (oq D1 ja);obtain⟨cp,e1⟩:=D1.c1;obtain⟨va,vb,x1,x2,x3,x4⟩:=D1.hd i a b hi;have Gi:(0:Int)<=i:=by omega
 have Gk:(i:Int)<H.length:=by omega
 have F2:Below w.heap.size w ((w.alloc (cB 0 0)).alloc (.cells #[va,vb] 185)):=χ F1 _;have b2:=χ (γ (w.alloc (cB 0 0)).heap.size (w.alloc (cB 0 0))) (.cells #[va,vb] 185);have hs1:(w.alloc (cB 0 0)).heap.size=w.heap.size+1:=by simp
 have T2:Hid (TW N1 U w rd rc J 0 0 H P (w.heap.size+1) w.heap.size va vb ((w.alloc (cB 0 0)).alloc (.cells #[va,vb] 185))):=
  ⟨h.b hU F2,bD.below F2,by rw[<- hs1];exact B2.new _ va vb 185,by rw[<- hs1];exact bB _ _ _,by omega,R1.b b2,ζ _,⟨h.tg.lt,h.th.lt⟩,hU⟩
 have X3:=I (x3.b b2);have X4:=I (x4.b b2);obtain⟨pa,ca,rfl,_⟩:=x3.len;obtain⟨Y,cb,rfl,_⟩:=x4.len;clear h F1 R1 D1 x3 x4 F2 b2;go_enter func31,ntmps31;go_upto_region 1 with(fail);generalize w.alloc (cB 0 0)=W1 at*;go_wp2_with fail;refine(Z HW).mono ?_;rintro ev w1⟨rfl,rfl⟩;go_upto_region 5 with(fail);generalize w1.alloc (.cells #[.slice pa a.length ca,.slice Y b.length cb] 185)=W2 at*;clear HW x1 x2 e1 hs1;generalize w.heap.size+1=q2 at*;have key:∃(bo co:Nat) (v2:Value),OS U W2 v2 b'/\xs.length<co/\OS U W2 (.slice (some ⟨bo,0,none⟩) (xs.length+1) co) (xs++[(oN,oA)])/\((a≠[]/\P'=P/\Value.slice pa a.length ca=.slice (some ⟨bo,0,none⟩) (xs.length+1) co/\v2=.slice Y b.length cb)\/(a=[]/\b≠[]/\P'=P/\Value.slice Y b.length cb=.slice (some ⟨bo,0,none⟩) (xs.length+1) co/\v2=.slice pa a.length ca)\/(a=[]/\b=[]/\v2=.slice Y b.length cb/\∃bp cq,W2.cell? ⟨rd,2,none⟩=some (.slice (some ⟨bp,0,none⟩) (P'.length+1) cq)/\P'.length<cq/\P'.length<=1000000/\W2.cell? ⟨bp,P'.length,none⟩=some (.slice (some ⟨bo,0,none⟩) (xs.length+1) co)/\PV U W2 (.slice (some ⟨bp,0,none⟩) P'.length cq) P')):=by
  have lem:∀(v:Value) (l:List Bl),OS U W2 v l->l=xs++[(oN,oA)]->∃bo co:Nat,v=.slice (some ⟨bo,0,none⟩) (xs.length+1) co/\xs.length<co:=λv l h e=>by
   subst e;obtain⟨bo,co,G,O,_⟩:=h.last;exact⟨bo,co,G,O⟩
  cases hl with
  |keep _ h =>
   obtain⟨bo,co,G,O⟩:=lem _ _ (Z X3) ha;refine⟨bo,co,_,Z X4,O,?_,ε ⟨h,rfl,G,rfl⟩⟩;rw[<- G,<- ha];exact Z X3
  |swap _ h hb2 =>
   obtain⟨bo,co,G,O⟩:=lem _ _ (Z X4) ha;refine⟨bo,co,_,Z X3,O,?_,δ (ε ⟨h,hb2,rfl,G,rfl⟩)⟩;rw[<- G,<- ha];exact Z X4
  |iF _ _ h hb2 =>
   obtain⟨v,e2,e3⟩:=(Z T2).d.c2;obtain⟨bp,cq,u',e4,e5,e6,e7,e8⟩:=e3.top;subst e4;obtain⟨bo,co,G,O⟩:=lem _ _ e7 ha;refine⟨bo,co,_,Z X4,O,?_,δ (δ ⟨h,hb2,rfl,bp,cq,e2,e5,?_,?_,e8⟩)⟩
   ·rw[<- G,<- ha];exact e7
   ·rw[φ]at hp;omega
   ·rw[e6,G]
 obtain⟨bo,co,v2,hv2,hlt,hvo,Co⟩:=key;have PK:=I hv2;have Um:=I hvo;obtain⟨bo2,co2,hv0,abM,hUb,hbl,g0,g1,hO⟩:=hvo.last;simp only[ψ,τ,av,bI,aZ]at hv0;obtain⟨rfl,rfl⟩:=hv0;have HO:=I hO;simp only at g0 g1;generalize D:xs.length=k at*;have HK:=I D;have HI:=I hi;clear hv2 hvo hO hl X3 X4 hi ha D;have EZ:(0:Int)<=k:=by omega
 have TT:(k:Int)<((k+1:Nat):Int):=by omega
 have hk2:((k+1:Nat):Int)-1=(k:Int):=by omega
 have hk3:(((k+1:Nat):Int)==0)=false:=by simp;omega
 have hk4:decide (((k+1:Nat):Int)>0)=true:=by simp<;>omega
 have pre:∀W5:World,True:=λ_=>trivial;rcases Co with⟨hae,rfl,hv,rfl⟩|⟨rfl,hbe,rfl,hv,rfl⟩|⟨rfl,rfl,rfl,bp,cq,e2,e5,e6,e7,e8⟩
 ·rw[hv]at T2;have T5:=T2;obtain⟨c0,c1,cf,_⟩:=(Z T2).bx;have f0:=cf 0;clear hv cf;go_upto_region 13 with(fail);clear c0 c1 f0;obtain⟨c0,c1,cf,cl⟩:=(Z T5).bx;have PL:=(Z T2).os (Z T5) (Z Um);obtain⟨b9,c9,Jq,_,_,KW,g0,g1,Jr⟩:=PL.last;rw[Z HK]at Jq Jr g0 g1;simp only[ψ,τ,av,bI,aZ]at Jq;obtain⟨rfl,rfl⟩:=Jq;have PM:=(Z T2).os (Z T5) (Z PK);simp only at g0 g1;have F6:=χ (γ W2.heap.size W2) (cB oN oA);have T6:=I ((Z T5).b F6);have B6:=Mg.Bx.new W2 oN oA;have O6:=I (Jr.b F6);have V6:=I (PM.b F6);have Un:J<W2.heap.size:=(Z T5).d.th.lt;have T22:=T2;clear T2 T5 PL Jr PM F6 cf PK Um HO;go_upto_region 15 with(fail);generalize W2.alloc (cB oN oA)=W6 at*;generalize W2.heap.size=p6 at*;clear c0 c1 g0 g1;obtain⟨c0,c1,cf,_⟩:=(Z T6).bx;have f0:=cf 0;have T7:=I ((Z T6).ny (.slice (some ⟨bo,0,none⟩) k co));have yz:p6≠q2:=by omega
  have B7:Mg.Bx (W6.setCell ⟨q2,0,none⟩ (.slice (some ⟨bo,0,none⟩) k co)) p6 (oN,oA):=B6.blk (μ _ _ _ _ (by first|exact yz|exact yz.symm));have O7:=I ((Z T6).os (Z T7) (Z O6));have V7:=I ((Z T6).os (Z T7) (Z V6));clear B6 O6 V6 cf;go_upto_region 16 with(fail);generalize W6.setCell ⟨q2,0,none⟩ (.slice (some ⟨bo,0,none⟩) k co)=W7 at*;clear c0 c1 f0 T6;obtain⟨c0,c1,_,_⟩:=(Z T7).bx;obtain⟨yA,e7⟩:=(Z T7).d.c1;obtain⟨u1,u2,GC,PN,_,_⟩:=(Z T7).d.hd i _ _ (Z HI);have PO:=(Z T7).d.fh (i*2);have PR:=(Z T7).d.fh (i*2+1);have ot:rd≠J:=(Z T7).d.tg.ne (Z T7).d.th (by decide);have Dk:p6≠J:=by omega
  have T8:=I ((Z T7).hand ja (Z O7) (Z V7));have K8:Hid ((((W7.setCell ⟨J,i*2,none⟩ (.slice (some ⟨bo,0,none⟩) k co)).setCell ⟨J,i*2+1,none⟩ (.slice Y b.length cb))).drew.cell? ⟨rd,1,none⟩=some (.slice (some ⟨J,0,none⟩) H.length yA)/\(((W7.setCell ⟨J,i*2,none⟩ (.slice (some ⟨bo,0,none⟩) k co)).setCell ⟨J,i*2+1,none⟩ (.slice Y b.length cb))).drew.cell? ⟨q2,0,none⟩=some (.slice (some ⟨bo,0,none⟩) k co)/\(((W7.setCell ⟨J,i*2,none⟩ (.slice (some ⟨bo,0,none⟩) k co)).setCell ⟨J,i*2+1,none⟩ (.slice Y b.length cb))).drew.cell? ⟨q2,1,none⟩=some (.slice Y b.length cb)):=by
   have jk:=(Z T8).bx.b (dw _);exact⟨(bu (λe=>by injection e with e1;first|exact ot e1|exact ot e1.symm)).trans ((bu (λe=>by injection e with e1;first|exact ot e1|exact ot e1.symm)).trans e7),jk.c0,jk.c1⟩
  have PT:=I ((B7.blk ((μ _ _ _ _ (by first|exact Dk|exact Dk.symm)).trans (μ _ _ _ _ (by first|exact Dk|exact Dk.symm))):Mg.Bx ((W7.setCell ⟨J,i*2,none⟩ (.slice (some ⟨bo,0,none⟩) k co)).setCell ⟨J,i*2+1,none⟩ (.slice Y b.length cb)) p6 (oN,oA)));clear B7 T7;go_region_held3 (λw'=>w'.cell? ⟨rd,1,none⟩=some (.slice (some ⟨J,0,none⟩) H.length yA)/\w'.cell? ⟨q2,0,none⟩=some (.slice (some ⟨bo,0,none⟩) k co)/\w'.cell? ⟨q2,1,none⟩=some (.slice Y b.length cb)) (first|(go_keep;done)|exact Z K8) (fail);clear K8 c0 c1 e7 GC PN PO PR;generalize(W7.setCell ⟨J,i*2,none⟩ (.slice (some ⟨bo,0,none⟩) k co)).setCell ⟨J,i*2+1,none⟩ (.slice Y b.length cb)=W8 at*;have T9:=I ((Z T8).b (dw W8));obtain⟨b0,b1⟩:=(Z PT).b (dw W8);clear T8 PT;generalize W8.drew=W9 at*;obtain⟨r0,r1,bQ,rt⟩:=(Z T9).rx;have rf0:=bQ 0;have rf1:=bQ 1;have nC:=I ((Z T9).res (.int .i64 oN) (.int .i64 oA));simp only at b0 b1;clear T9 bQ rt;obtain⟨t0,t1⟩:=aW r0 r1 (.int .i64 oN) (.int .i64 oA);go_wp2;refine Θ (v:=.tuple #[.agg #[.int .i64 oN,.int .i64 oA],.int .i64 0]) (by simp[results,results31,go_sem,t0,t1];try rfl) rfl ?_;exact⟨rfl,(Z nC).1,(Z nC).2⟩
 ·rw[hv]at T2;obtain⟨c0,c1,cf,_⟩:=(Z T2).bx;have f0:=cf 0;have f1:=cf 1;have T5:=I (((Z T2).ny (.slice (some ⟨bo,0,none⟩) (k+1) co)).ND (.slice pa ([]:List Bl).length ca));clear hv cf;simp only[aA]at c0 c1 T5;go_upto_region 13 with(fail);generalize(W2.setCell ⟨q2,0,none⟩ (.slice (some ⟨bo,0,none⟩) (k+1) co)).setCell ⟨q2,1,none⟩ (.slice pa 0 ca)=W5 at*;clear c0 c1 f0 f1;obtain⟨c0,c1,cf,cl⟩:=(Z T5).bx;have PL:=(Z T2).os (Z T5) (Z Um);obtain⟨b9,c9,Jq,_,_,KW,g0,g1,Jr⟩:=PL.last;rw[Z HK]at Jq Jr g0 g1;simp only[ψ,τ,av,bI,aZ]at Jq;obtain⟨rfl,rfl⟩:=Jq;have PM:=(Z T2).os (Z T5) (Z PK);simp only at g0 g1;have F6:=χ (γ W5.heap.size W5) (cB oN oA);have T6:=I ((Z T5).b F6);have B6:=Mg.Bx.new W5 oN oA;have O6:=I (Jr.b F6);have V6:=I (PM.b F6);have Un:J<W5.heap.size:=(Z T5).d.th.lt;have T22:=T2;clear T2 T5 PL Jr PM F6 cf PK Um HO;go_upto_region 15 with(fail);generalize W5.alloc (cB oN oA)=W6 at*;generalize W5.heap.size=p6 at*;clear c0 c1 g0 g1;obtain⟨c0,c1,cf,_⟩:=(Z T6).bx;have f0:=cf 0;have T7:=I ((Z T6).ny (.slice (some ⟨bo,0,none⟩) k co));have yz:p6≠q2:=by omega
  have B7:Mg.Bx (W6.setCell ⟨q2,0,none⟩ (.slice (some ⟨bo,0,none⟩) k co)) p6 (oN,oA):=B6.blk (μ _ _ _ _ (by first|exact yz|exact yz.symm));have O7:=I ((Z T6).os (Z T7) (Z O6));have V7:=I ((Z T6).os (Z T7) (Z V6));clear B6 O6 V6 cf;go_upto_region 16 with(fail);generalize W6.setCell ⟨q2,0,none⟩ (.slice (some ⟨bo,0,none⟩) k co)=W7 at*;clear c0 c1 f0 T6;obtain⟨c0,c1,_,_⟩:=(Z T7).bx;obtain⟨yA,e7⟩:=(Z T7).d.c1;obtain⟨u1,u2,GC,PN,_,_⟩:=(Z T7).d.hd i _ _ (Z HI);have PO:=(Z T7).d.fh (i*2);have PR:=(Z T7).d.fh (i*2+1);have ot:rd≠J:=(Z T7).d.tg.ne (Z T7).d.th (by decide);have Dk:p6≠J:=by omega
  have T8:=I ((Z T7).hand ja (Z O7) (Z V7));have K8:Hid ((((W7.setCell ⟨J,i*2,none⟩ (.slice (some ⟨bo,0,none⟩) k co)).setCell ⟨J,i*2+1,none⟩ (.slice pa 0 ca))).drew.cell? ⟨rd,1,none⟩=some (.slice (some ⟨J,0,none⟩) H.length yA)/\(((W7.setCell ⟨J,i*2,none⟩ (.slice (some ⟨bo,0,none⟩) k co)).setCell ⟨J,i*2+1,none⟩ (.slice pa 0 ca))).drew.cell? ⟨q2,0,none⟩=some (.slice (some ⟨bo,0,none⟩) k co)/\(((W7.setCell ⟨J,i*2,none⟩ (.slice (some ⟨bo,0,none⟩) k co)).setCell ⟨J,i*2+1,none⟩ (.slice pa 0 ca))).drew.cell? ⟨q2,1,none⟩=some (.slice pa 0 ca)):=by
   have jk:=(Z T8).bx.b (dw _);exact⟨(bu (λe=>by injection e with e1;first|exact ot e1|exact ot e1.symm)).trans ((bu (λe=>by injection e with e1;first|exact ot e1|exact ot e1.symm)).trans e7),jk.c0,jk.c1⟩
  have PT:=I ((B7.blk ((μ _ _ _ _ (by first|exact Dk|exact Dk.symm)).trans (μ _ _ _ _ (by first|exact Dk|exact Dk.symm))):Mg.Bx ((W7.setCell ⟨J,i*2,none⟩ (.slice (some ⟨bo,0,none⟩) k co)).setCell ⟨J,i*2+1,none⟩ (.slice pa 0 ca)) p6 (oN,oA)));clear B7 T7;go_region_held3 (λw'=>w'.cell? ⟨rd,1,none⟩=some (.slice (some ⟨J,0,none⟩) H.length yA)/\w'.cell? ⟨q2,0,none⟩=some (.slice (some ⟨bo,0,none⟩) k co)/\w'.cell? ⟨q2,1,none⟩=some (.slice pa 0 ca)) (first|(go_keep;done)|exact Z K8) (fail);clear K8 c0 c1 e7 GC PN PO PR;generalize(W7.setCell ⟨J,i*2,none⟩ (.slice (some ⟨bo,0,none⟩) k co)).setCell ⟨J,i*2+1,none⟩ (.slice pa 0 ca)=W8 at*;have T9:=I ((Z T8).b (dw W8));obtain⟨b0,b1⟩:=(Z PT).b (dw W8);clear T8 PT;generalize W8.drew=W9 at*;obtain⟨r0,r1,bQ,rt⟩:=(Z T9).rx;have rf0:=bQ 0;have rf1:=bQ 1;have nC:=I ((Z T9).res (.int .i64 oN) (.int .i64 oA));simp only at b0 b1;clear T9 bQ rt;obtain⟨t0,t1⟩:=aW r0 r1 (.int .i64 oN) (.int .i64 oA);go_wp2;refine Θ (v:=.tuple #[.agg #[.int .i64 oN,.int .i64 oA],.int .i64 0]) (by simp[results,results31,go_sem,t0,t1];try rfl) rfl ?_;exact⟨rfl,(Z nC).1,(Z nC).2⟩
 ·have SD:(0:Int)<=P'.length:=by omega
  have TU:(P'.length:Int)<((P'.length+1:Nat):Int):=by omega
  have Gp:((P'.length+1:Nat):Int)-1=(P'.length:Int):=by omega
  have hq3:decide (((P'.length+1:Nat):Int)>0)=true:=by simp<;>omega
  obtain⟨c0,c1,cf,_⟩:=(Z T2).bx;have f0:=cf 0;have f1:=cf 1;have fd:=(Z T2).d.fd 2;have nr:=(Z T2).np.1;have T3:=(Z T2).ny (.slice (some ⟨bo,0,none⟩) (k+1) co);have T5:=I (T3.iF (e8.keep (w':=W2.setCell ⟨q2,0,none⟩ (.slice (some ⟨bo,0,none⟩) (k+1) co)) (λj E=>μ _ _ _ _ (λe=>(Z T2).np.2.2 (by simp only at e;rw[<- e];exact E))) (λb t hm ht=>μ _ _ _ _ (λe=>by
   simp only at e;simp only[ae,aR,dg]at hm;rw[hm,e]at ht;exact ht.ne (Z T2).tp (by decide) rfl)) (by simp[World.setCell]) (λ_ h=>h)))
  simp only[aA]at c0 c1 T5;clear cf T3;go_upto_region 13 with(fail);generalize(W2.setCell ⟨q2,0,none⟩ (.slice (some ⟨bo,0,none⟩) (k+1) co)).setCell ⟨rd,2,none⟩ (.slice (some ⟨bp,0,none⟩) P'.length cq)=W5 at*;clear c0 c1 f0 f1 fd e2 e6;obtain⟨c0,c1,cf,cl⟩:=(Z T5).bx;have PL:=(Z T2).os (Z T5) (Z Um);obtain⟨b9,c9,Jq,_,_,KW,g0,g1,Jr⟩:=PL.last;rw[Z HK]at Jq Jr g0 g1;simp only[ψ,τ,av,bI,aZ]at Jq;obtain⟨rfl,rfl⟩:=Jq;have PM:=(Z T2).os (Z T5) (Z PK);simp only at g0 g1;have F6:=χ (γ W5.heap.size W5) (cB oN oA);have T6:=I ((Z T5).b F6);have B6:=Mg.Bx.new W5 oN oA;have O6:=I (Jr.b F6);have V6:=I (PM.b F6);have Un:J<W5.heap.size:=(Z T5).d.th.lt;have T22:=T2;clear T2 T5 PL Jr PM F6 cf PK Um HO;go_upto_region 15 with(fail);generalize W5.alloc (cB oN oA)=W6 at*;generalize W5.heap.size=p6 at*;clear c0 c1 g0 g1;obtain⟨c0,c1,cf,_⟩:=(Z T6).bx;have f0:=cf 0;have T7:=I ((Z T6).ny (.slice (some ⟨bo,0,none⟩) k co));have yz:p6≠q2:=by omega
  have B7:Mg.Bx (W6.setCell ⟨q2,0,none⟩ (.slice (some ⟨bo,0,none⟩) k co)) p6 (oN,oA):=B6.blk (μ _ _ _ _ (by first|exact yz|exact yz.symm));have O7:=I ((Z T6).os (Z T7) (Z O6));have V7:=I ((Z T6).os (Z T7) (Z V6));clear B6 O6 V6 cf;go_upto_region 16 with(fail);generalize W6.setCell ⟨q2,0,none⟩ (.slice (some ⟨bo,0,none⟩) k co)=W7 at*;clear c0 c1 f0 T6;obtain⟨c0,c1,_,_⟩:=(Z T7).bx;obtain⟨yA,e7⟩:=(Z T7).d.c1;obtain⟨u1,u2,GC,PN,_,_⟩:=(Z T7).d.hd i _ _ (Z HI);have PO:=(Z T7).d.fh (i*2);have PR:=(Z T7).d.fh (i*2+1);have ot:rd≠J:=(Z T7).d.tg.ne (Z T7).d.th (by decide);have Dk:p6≠J:=by omega
  have T8:=I ((Z T7).hand ja (Z O7) (Z V7));have K8:Hid ((((W7.setCell ⟨J,i*2,none⟩ (.slice (some ⟨bo,0,none⟩) k co)).setCell ⟨J,i*2+1,none⟩ (.slice Y 0 cb))).drew.cell? ⟨rd,1,none⟩=some (.slice (some ⟨J,0,none⟩) H.length yA)/\(((W7.setCell ⟨J,i*2,none⟩ (.slice (some ⟨bo,0,none⟩) k co)).setCell ⟨J,i*2+1,none⟩ (.slice Y 0 cb))).drew.cell? ⟨q2,0,none⟩=some (.slice (some ⟨bo,0,none⟩) k co)/\(((W7.setCell ⟨J,i*2,none⟩ (.slice (some ⟨bo,0,none⟩) k co)).setCell ⟨J,i*2+1,none⟩ (.slice Y 0 cb))).drew.cell? ⟨q2,1,none⟩=some (.slice Y 0 cb)):=by
   have jk:=(Z T8).bx.b (dw _);exact⟨(bu (λe=>by injection e with e1;first|exact ot e1|exact ot e1.symm)).trans ((bu (λe=>by injection e with e1;first|exact ot e1|exact ot e1.symm)).trans e7),jk.c0,jk.c1⟩
  have PT:=I ((B7.blk ((μ _ _ _ _ (by first|exact Dk|exact Dk.symm)).trans (μ _ _ _ _ (by first|exact Dk|exact Dk.symm))):Mg.Bx ((W7.setCell ⟨J,i*2,none⟩ (.slice (some ⟨bo,0,none⟩) k co)).setCell ⟨J,i*2+1,none⟩ (.slice Y 0 cb)) p6 (oN,oA)));clear B7 T7;go_region_held3 (λw'=>w'.cell? ⟨rd,1,none⟩=some (.slice (some ⟨J,0,none⟩) H.length yA)/\w'.cell? ⟨q2,0,none⟩=some (.slice (some ⟨bo,0,none⟩) k co)/\w'.cell? ⟨q2,1,none⟩=some (.slice Y 0 cb)) (first|(go_keep;done)|exact Z K8) (fail);clear K8 c0 c1 e7 GC PN PO PR;generalize(W7.setCell ⟨J,i*2,none⟩ (.slice (some ⟨bo,0,none⟩) k co)).setCell ⟨J,i*2+1,none⟩ (.slice Y 0 cb)=W8 at*;have T9:=I ((Z T8).b (dw W8));obtain⟨b0,b1⟩:=(Z PT).b (dw W8);clear T8 PT;generalize W8.drew=W9 at*;obtain⟨r0,r1,bQ,rt⟩:=(Z T9).rx;have rf0:=bQ 0;have rf1:=bQ 1;have nC:=I ((Z T9).res (.int .i64 oN) (.int .i64 oA));simp only at b0 b1;clear T9 bQ rt;obtain⟨t0,t1⟩:=aW r0 r1 (.int .i64 oN) (.int .i64 oA);go_wp2;refine Θ (v:=.tuple #[.agg #[.int .i64 oN,.int .i64 oA],.int .i64 0]) (by simp[results,results31,go_sem,t0,t1];try rfl) rfl ?_;exact⟨rfl,(Z nC).1,(Z nC).2⟩
end
section
variable {N1:Nat}{U:Nat->Prop}{w w':World}{rd rc J:Nat}{H:List (List Bl×List Bl)}{P:List (List Bl)}{v:Value}
theorem Bc (h:RD N1 U w rd rc J H P)(hU:∀k,U k->Tag w k 34){x:Int}(hx:x<0\/(H.length:Int)<=x)(y:Int)(u:Bool):
  Calls prog 31 #[.pointer (some ⟨rd,0,none⟩),.int .i64 x,.int .i64 y,.bool u] w λev w'=>ev=.returned (.tuple #[.agg #[.int .i64 0,.int .i64 0],.int .i64 2])/\Below w.heap.size w w':=by
 have F1:=χ (γ w.heap.size w) (cB 0 0);have R1:=cQ w;have HW:=I (Bb (h.b hU F1) hx);have HF:=I F1;clear h F1;obtain⟨r0,r1,bQ,_⟩:=R1;have f0:=bQ 0;have f1:=bQ 1;clear bQ;go_enter func31,ntmps31;go_upto_region 1 with(fail);generalize w.alloc (cB 0 0)=W1 at*;go_wp2_with fail;refine(Z HW).mono ?_;rintro ev w1⟨rfl,rfl⟩;obtain⟨t0,t1⟩:=aW r0 r1 (.int .i64 0) (.int .i64 0);go_wp2;refine Θ (v:=.tuple #[.agg #[.int .i64 0,.int .i64 0],.int .i64 2]) (by simp[results,results31,go_sem,t0,t1];try rfl) rfl ?_;exact⟨rfl,rE (Z HF) (ζ _) _ _⟩
theorem vP (h:RD N1 U w rd rc J H [])(hU:∀k,U k->Tag w k 34){i:Nat}(hi:H[i]?=some ([],[]))(y:Int)(u:Bool){Φ : Int->Int->Int->World->World->Prop}(K:∀W,Below w.heap.size w W->Calls prog 102 #[.pointer (some ⟨rc,0,none⟩),.int .i64 y,.bool u] W λev w'=>∃oN oA r,ev=.returned (.tuple #[.agg #[.int .i64 oN,.int .i64 oA],.int .i64 r])/\Φ oN oA r W w'/\bD R4 N1 W w'):
  Calls prog 31 #[.pointer (some ⟨rd,0,none⟩),.int .i64 (i:Int),.int .i64 y,.bool u] w λev w'=>∃oN oA r W w2 p,ev=.returned (.tuple #[.agg #[.int .i64 oN,.int .i64 oA],.int .i64 r])/\Below w.heap.size w W/\Φ oN oA r W w2/\bD R4 N1 W w2/\w'=(w2.setCell ⟨p,0,none⟩ (.int .i64 oN)).setCell ⟨p,1,none⟩ (.int .i64 oA)/\w.heap.size<=p/\Tag w2 p 34:=by
 have ja:i<H.length:=(ν.1 hi).1;have F1:=χ (γ w.heap.size w) (cB 0 0);have R1:=cQ w;have D1:=h.b hU F1;have HW:=I (oq D1 ja);obtain⟨cp,e1⟩:=D1.c1;obtain⟨va,vb,x1,x2,x3,x4⟩:=D1.hd i [] [] hi;obtain⟨v3,e2,e3⟩:=h.c2;obtain⟨pp,cq,rfl⟩:∃pp cq,v3=.slice pp 0 cq:=by
  rcases e3 with⟨G,_⟩|⟨b,cp,G,_⟩
  ·exact⟨none,0,G⟩
  ·exact⟨_,cp,G⟩
 have Gi:(0:Int)<=i:=by omega
 have Gk:(i:Int)<H.length:=by omega
 have F2:Below w.heap.size w ((w.alloc (cB 0 0)).alloc (.cells #[va,vb] 185)):=χ F1 _;have b2:=χ (γ (w.alloc (cB 0 0)).heap.size (w.alloc (cB 0 0))) (.cells #[va,vb] 185);have hs1:(w.alloc (cB 0 0)).heap.size=w.heap.size+1:=by simp
 have T2:Hid (TW N1 U w rd rc J 0 0 H [] (w.heap.size+1) w.heap.size va vb ((w.alloc (cB 0 0)).alloc (.cells #[va,vb] 185))):=
  ⟨h.b hU F2,bD.below F2,by rw[<- hs1];exact B2.new _ va vb 185,by rw[<- hs1];exact bB _ _ _,by omega,R1.b b2,ζ _,⟨h.tg.lt,h.th.lt⟩,hU⟩
 have ZE:=(F2.cell (p:=⟨rd,2,none⟩) h.tg.lt).trans e2;have e20:=(F2.cell (p:=⟨rd,0,none⟩) h.tg.lt).trans h.c0;obtain⟨pa,ca,rfl,_⟩:=x3.len;obtain⟨Y,cb,rfl,_⟩:=x4.len;have HC:=I (K _ F2);have eA:=I F2;unfold ptr at e20;simp only[aA]at*;clear h F1 R1 D1 x3 x4 F2 b2 K e2 e3;go_enter func31,ntmps31;go_upto_region 1 with(fail);generalize w.alloc (cB 0 0)=W1 at*;go_wp2_with fail;refine(Z HW).mono ?_;rintro ev w1⟨rfl,rfl⟩;go_upto_region 5 with(fail);generalize w1.alloc (.cells #[.slice pa 0 ca,.slice Y 0 cb] 185)=W2 at*;clear HW x1 x2 e1 hs1;generalize w.heap.size+1=q2 at*;obtain⟨c0,c1,_,_⟩:=(Z T2).bx;go_wp2_with fail;refine(Z HC).mono ?_;rintro ev w3⟨oN,oA,r,rfl,WS,hCh⟩;have R3:=(Z T2).rx.blk (hCh.same (Z T2).rx.tg (by decide));have HP:=I WS;have YS:=I hCh;clear WS hCh HC c0 c1 e20 ZE;have HT:=I R3.tg;obtain⟨r0,r1,bQ,_⟩:=R3;have f0:=bQ 0;have f1:=bQ 1;clear bQ;obtain⟨t0,t1⟩:=aW r0 r1 (.int .i64 oN) (.int .i64 oA);go_wp2;refine Θ (v:=.tuple #[.agg #[.int .i64 oN,.int .i64 oA],.int .i64 r]) (by simp[results,results31,go_sem,t0,t1];try rfl) rfl ?_;exact⟨oN,oA,r,W2,w3,w.heap.size,rfl,Z eA,Z HP,Z YS,rfl,ζ _,Z HT⟩
theorem js {ops:Array Oper}{rest:List Oper}{o:Oper}{a:Act}{ab5:Exit->Act->World->Prop}(hgd:o.guard=none)(s x:Operand)
  (ho:o.op=.call {callee:=.builtin .append,args:=#[s,x],argTypes:=#[32,32]})(base:Nat)(v:Value)(n:Nat)(xs:List Value)(hs:a.eval s=v)(hown:w.ownsRow base 34 2 v n xs){vx:Value}{ys:List Bl}(hx:a.eval x=vx)(hos:OS U w vx ys)(hlen:n+ys.length<=1000000)(hbase:base<=w.heap.size)
  (h:∀v' w',w'.ownsRow base 34 2 v' (n+ys.length) (xs++flat ys)->w.grownBy w' v.ownBlock->wpList prog ops ab5 rest (a.put o.dst v') w'):wpList prog ops ab5 (o::rest) a w:=by
 obtain⟨i0,eO,hz0,hz1,hz2⟩:=aY kD;rcases hos with⟨rfl,rfl⟩|⟨b,cp,rfl,O,h3,h4,h5,h6⟩
 ·refine dO hgd s x 32 ho base 34 i0 2 underlying32 eO v n xs hs hown hx ?_;have:=h v w (by simpa[flat]using hown) ⟨rfl,rfl,rfl,ζ _,λ_ _ _=>rfl⟩;exact this
 ·exact Ω w hgd s x 32 ho base 34 i0 (.agg #[.int .i64 0,.int .i64 0]) 2 16 underlying32 eO hz0 hz1 hz2 rfl (by decide) v n xs hs hown ⟨b,0,none⟩ ys.length cp (flat ys) hx (cd ys) (λj u hu=>by rw[Bd.eZ,bj];exact h6 j u hu) (fL ys) (by unfold maxLen;omega) (by omega) hbase λv' w' h7 h8 _=>h v' w' h7 h8
end
def ei (H:List (List Bl×List Bl)):List Bl:=H.flatMap λx=>x.1++x.2
theorem uy {H:List (List Bl×List Bl)}{i:Nat}{a b:List Bl}(h:H[i]?=some (a,b)):ei (H.take (i+1))=ei (H.take i)++a++b:=by
 rw[cK,h];simp[ei]
theorem Dl (H:List (List Bl×List Bl))(i:Nat):(ei (H.take i)).length<=(ei H).length:=by
 have e:ei H=ei (H.take i)++ei (H.drop i):=by
  unfold ei;rw[<- List.flatMap_append,bS]
 rw[e,φ];omega
theorem vQ {P:List (List Bl)}{i:Nat}{t:List Bl}(h:P[i]?=some t):(P.take (i+1)).flatten=(P.take i).flatten++t:=by
 rw[cK,h];simp
theorem Be (P:List (List Bl))(i:Nat):(P.take i).flatten.length<=P.flatten.length:=by
 have e:P.flatten=(P.take i).flatten++(P.drop i).flatten:=by rw[<- List.flatten_append,bS]
 rw[e,φ];omega
section
variable {N1:Nat}{U:Nat->Prop}{w w':World}{rd rc J:Nat}{H:List (List Bl×List Bl)}{P:List (List Bl)}{v:Value}
theorem SE (h:RD N1 U w rd rc J H P)(hl:(ei H++P.flatten).length<=100000)(hH:H.length<=1000000)(hP:P.length<=1000000):
  Calls prog 210 #[.pointer (some ⟨rd,0,none⟩)] w λev w'=>∃v,ev=.returned v/\w'.ownsRow w.heap.size 34 2 v (ei H++P.flatten).length (flat (ei H++P.flatten))/\Below w.heap.size w w':=by
 have HHD:=I (λ(i:Nat) (a b:List Bl) (hx:H[i]?=some (a,b))=>(show ∃va vb,∀W,Below w.heap.size w W->W.cell? ⟨J,i*2,none⟩=some va/\W.cell? ⟨J,i*2+1,none⟩=some vb/\OS U W va a/\OS U W vb b from by
  obtain⟨va,vb,x1,x2,x3,x4⟩:=h.hd i a b hx;exact⟨va,vb,λW hW=>⟨(hW.cell (p:=⟨J,i*2,none⟩) h.th.lt).trans x1,(hW.cell (p:=⟨J,i*2+1,none⟩) h.th.lt).trans x2,x3.b hW,x4.b hW⟩⟩))
 have PU:Hid (∃pp cq,∀W,Below w.heap.size w W->W.cell? ⟨rd,2,none⟩=some (.slice pp P.length cq)/\∀(j:Nat) (t:List Bl),P[j]?=some t->∃b u,pp=some ⟨b,0,none⟩/\W.cell? ⟨b,j,none⟩=some u/\OS U W u t):=by
  obtain⟨v3,e2,e3⟩:=h.c2;rcases e3 with⟨rfl,rfl⟩|⟨b,cq,rfl,_,_,h4,h5⟩
  ·exact⟨none,0,λW hW=>⟨(hW.cell (p:=⟨rd,2,none⟩) h.tg.lt).trans e2,λj t E=>by cases E⟩⟩
  ·exact⟨_,cq,λW hW=>⟨(hW.cell (p:=⟨rd,2,none⟩) h.tg.lt).trans e2,λj t E=>by
    obtain⟨u,z1,z2⟩:=h5 j t E;exact⟨b,u,rfl,(hW.cell (p:=⟨b,j,none⟩) h4.lt).trans z1,z2.b hW⟩⟩⟩
 obtain⟨cp,e1⟩:=h.c1;have MR:=I (λW (hW:Below w.heap.size w W)=>(hW.cell (p:=⟨rd,1,none⟩) h.tg.lt).trans e1);have Js:=I (Dl H);have HLP:=I (Be P);have WT:Hid ((ei H).length+P.flatten.length<=100000):=by rw[φ]at hl;exact hl
 clear h hl e1;obtain⟨pp,cq,PU⟩:=PU;have PU:=I PU;generalize hn:H.length=n at*;have HN:=I hn;generalize Gj:P.length=n2 at*;have zS:=I Gj;clear hn Gj;go_enter func210,ntmps210;go_wp2;go_loopw [3,4] (λs3 s4 wr=>∃(i:Nat) (v3:Value),v3=s3/\s4=.int .i64 i/\i<=n/\Hid (wr.ownsRow w.heap.size 34 2 v3 (ei (H.take i)).length (flat (ei (H.take i))))/\Hid (Below w.heap.size w wr)) (λ_ s _=>n-(intOf s).toNat)
 case atStart=>exact⟨0,_,rfl,rfl,Γ _,Ξ _ _ _ _,γ _ _⟩
 case round =>
  obtain⟨i,v3,hv3,rfl,hi,HO,HB⟩:=hrel;subst hv3;have e1:=(Z MR) wr (Z HB);have eO:(0:Int)<=i:=by omega
  by_cases eY:i<n
  ·have ja:(i:Int)<n:=by omega
   obtain⟨⟨a,b⟩,hx⟩:∃ab,H[i]?=some ab:=⟨_,ξ (by rw[Z HN];exact eY)⟩;obtain⟨va,vb,hv⟩:=(Z HHD) i a b hx;have HV:=I hv;obtain⟨x1,_,x3,_⟩:=hv wr (Z HB);have hb1:=(Z Js) (i+1);have Gz:=Z WT;have jP:=uy hx;rw[jP,φ,φ]at hb1;have Nj:=I x3;have oW:=I jP;have WU:=(Z HB).size;clear x3 hx jP hv;generalize ei (H.take i)=L at*;have eU:True:=trivial;go_wp2_with (first
    |(at_builtin;have _t:=eU;refine js (U:=U) rfl (.tmp 15) (.tmp 23) rfl w.heap.size _ _ _ rfl (Z HO) rfl (Z Nj) (by omega) WU ?_;intro v4 w4 o4 q4;have B4:=I ((Z HB).grown q4 WU (bL (Z HO)));have O4:=I o4;have e14:=(Z MR) w4 (Z B4);have x24:=((Z HV) w4 (Z B4)).2.1;have WV:=I ((Z HV) w4 (Z B4)).2.2.2;have WW:=(Z B4).size;clear o4 q4 eU)
    |(at_builtin;refine js (U:=U) rfl (.tmp 25) (.tmp 33) rfl w.heap.size _ _ _ rfl (Z O4) rfl (Z WV) (by omega) WW ?_;intro v5 w5 o5 q5;have B5:=I ((Z B4).grown q5 WW (bL (Z O4)));have O5:=I o5;clear o5 q5))
   clear Nj WV O4 B4 HO HB e1 x1 e14 x24;go_roundw;case rel=>exact⟨i+1,_,rfl,by go_num,by omega,by rw[Z oW,bM,bM,φ,φ];exact O5,B5⟩
   case measure=>simp[intOf];omega
  ·obtain rfl:i=n:=by omega
   have kn:¬(i:Int)<i:=by omega
   have O0:Hid (wr.ownsRow w.heap.size 34 2 v3 (ei H).length (flat (ei H))):=by
    have:=Z HO;rw[bG (by rw[Z HN];exact ζ _)]at this;exact this
   clear HO;go_wp2_with fail;go_loopw [3,5] (λs3 s5 wr=>∃(j:Nat) (v3:Value),v3=s3/\s5=.int .i64 j/\j<=n2/\Hid (wr.ownsRow w.heap.size 34 2 v3 (ei H++(P.take j).flatten).length (flat (ei H++(P.take j).flatten)))/\Hid (Below w.heap.size w wr)) (λ_ s _=>n2-(intOf s).toNat)
   case atStart=>exact⟨0,_,rfl,rfl,Γ _,by simpa using O0,HB⟩
   case round =>
    clear O0 HB e1;obtain⟨j,v3,hv3,rfl,E,HO,HB⟩:=hrel;subst hv3;obtain⟨e2,Pe⟩:=(Z PU) wr (Z HB);have Cn:(0:Int)<=j:=by omega
    by_cases pS:j<n2
    ·have qm:(j:Int)<n2:=by omega
     obtain⟨t,ht⟩:∃t,P[j]?=some t:=⟨_,ξ (by rw[Z zS];exact pS)⟩;obtain⟨b,u,rfl,x1,x3⟩:=Pe j t ht;have hb1:=(Z HLP) (j+1);have Gz:=Z WT;have jP:=vQ ht;rw[jP,φ]at hb1;have oW:Hid (ei H++(P.take (j+1)).flatten=ei H++(P.take j).flatten++t):=by
      show _=_;rw[jP,aJ]
     have hlen:(ei H++(P.take j).flatten).length+t.length<=1000000:=by rw[φ];omega
     have Nj:=I x3;have WU:=(Z HB).size;clear x3 ht jP Pe hb1 Gz;generalize ei H++(P.take j).flatten=L at*;go_wp2_with (at_builtin;refine js (U:=U) rfl (.tmp 44) (.tmp 51) rfl w.heap.size _ _ _ rfl (Z HO) rfl (Z Nj) hlen WU ?_;intro v4 w4 o4 q4;have B4:=I ((Z HB).grown q4 WU (bL (Z HO)));have O4:=I o4;clear o4 q4);clear Nj HO HB e2 x1;go_roundw;case rel=>exact⟨j+1,_,rfl,by go_num,by omega,by rw[Z oW,bM,φ];exact O4,B4⟩
     case measure=>simp[intOf];omega
    ·obtain rfl:j=n2:=by omega
     have kn:¬(j:Int)<j:=by omega
     have O0:Hid (wr.ownsRow w.heap.size 34 2 v3 (ei H++P.flatten).length (flat (ei H++P.flatten))):=by
      have:=Z HO;rw[bG (by rw[Z zS];exact ζ _)]at this;exact this
     clear HO Pe;go_wp2;go_ret;exact⟨_,rfl,by simpa using Z O0,Z HB⟩
end
theorem NF {m:Nat}{sz:Int}{Q:List Sl}{x y:Int}:(x,y)∈oI m sz Q Q.length↔iM m sz Q x y:=by
 constructor
 ·intro h;obtain⟨k,i,hg⟩:=Ju (ζ _) h;exact⟨k,i,hg⟩
 ·rintro⟨j,i,s,hs,hi,J,hn,ha⟩;have:=Jt (n:=Q.length) (sz:=sz) hs hi J (ν.mp hs).1;simp only at hn ha;rw[hn,ha];exact this
section
variable {N1:Nat}{U:Nat->Prop}{w w':World}{rd rc rz J:Nat}{H:List (List Bl×List Bl)}{P:List (List Bl)}{v:Value}{sz:Int}{m:Nat}{rb rt:List Nat}{Q:List Sl}
theorem Bh (hr:RC N1 w rc rz sz m rb rt Q)(eH:∀s∈Q,KP m s)(f_:1<=sz/\sz<=64/\(m:Int)=64/sz)(hm:m<=64)(hn:Q.length<=10000)(oN oA:Int):
  Calls prog 211 #[.pointer (some ⟨rc,0,none⟩),.agg #[.int .i64 oN,.int .i64 oA]] w λev w'=>Below w.heap.size w w'/\((ev=.returned (.bool true)/\iM m sz Q oN oA)\/(ev=.returned (.bool false)/\¬iM m sz Q oN oA)):=by
 have F1:=χ (γ w.heap.size w) (cB oN oA);have B1:=Mg.Bx.new w oN oA;have HT:=I (rU N1 rc rz sz m rb rt Q _ (hr.b F1) eH f_ hn);have hlen:=vD m sz Q Q.length;have uX:mQ m Q Q.length<=640000:=by
  have G:=pd m Q Q.length;have O:Q.length*m<=10000*64:=gu hn hm;omega
 have HK:=I (@NF m sz Q oN oA);have cZ:=I F1;have Dn:=I B1;clear hr eH f_ hm hn F1 B1;unfold ptr at*;generalize oI m sz Q Q.length=L at*;generalize mQ m Q Q.length=n at*;go_enter func211,ntmps211;go_upto_region 1 with(fail);generalize w.alloc (cB oN oA)=W1 at*;go_wp2_with fail;refine(Z HT).mono ?_;rintro ev w2⟨v,rfl,o2,b2⟩;obtain⟨p,cp,rfl⟩:=aX o2;have HO:=I o2;have kg:=I ((Z Dn).b b2);have eA:=I (bW (Z cZ) b2);clear HT o2 b2 Dn cZ;go_wp2_with fail;go_loopw [6] (λs6 wr=>∃t:Nat,s6=.int .i64 t/\t<=n/\Hid (∀o∈L.take t,o≠(oN,oA))/\Hid (Below w2.heap.size w2 wr)) (λs _=>n-(intOf s).toNat)
 case atStart=>exact⟨0,rfl,Γ _,λo ho=>(by cases ho),γ _ _⟩
 case round =>
  obtain⟨t,rfl,ht,HX,HB⟩:=hrel;obtain⟨y0,y1⟩:=(Z kg).b (Z HB);simp only at y0 y1;by_cases Jv:t<n
  ·have aaT:(t:Int)<n:=by omega
   have zq:(0:Int)<=t:=by omega
   obtain⟨x,y,jl⟩:∃x y,L[t]?=some (x,y):=⟨_,_,ξ (by rw[hlen];exact Jv)⟩;obtain⟨gr,rfl,x0,x1⟩:=jb (aN (Z HO) (Z HB)) hlen jl;have sU:=I jl;clear jl;by_cases hx:x=oN
   ·subst hx;by_cases hy:y=oA
    ·subst hy;have hd:decide (y=y)=true:=by simp
     go_wp2_with fail;go_quiet (fail);go_wp2;go_ret;exact⟨iB (bW (Z eA) (Z HB)) _,ε ⟨rfl,(Z HK).1 (aH (Z sU))⟩⟩
    ·have hd:decide (y=oA)=false:=by simpa using hy
     have HN:Hid (∀o∈L.take (t+1),o≠(x,oA)):=λo ho e=>by
      rw[cK,Z sU]at ho;rcases aC.1 ho with h|h
      ·exact(Z HX) o h e
      ·simp only[fG,aw]at h;rw[h]at e;exact hy (ba Prod.snd e)
     go_wp2_with fail;go_quiet (fail);go_wp2_with fail;go_roundw;case rel=>exact⟨t+1,by go_num,by omega,HN,iB (Z HB) _⟩
     case measure=>simp[intOf];omega
   ·have hd:decide (x=oN)=false:=by simpa using hx
    have HN:Hid (∀o∈L.take (t+1),o≠(oN,oA)):=λo ho e=>by
     rw[cK,Z sU]at ho;rcases aC.1 ho with h|h
     ·exact(Z HX) o h e
     ·simp only[fG,aw]at h;rw[h]at e;exact hx (ba Prod.fst e)
    go_wp2_with fail;go_quiet (fail);go_wp2_with fail;go_roundw;case rel=>exact⟨t+1,by go_num,by omega,HN,iB (Z HB) _⟩
    case measure=>simp[intOf];omega
  ·obtain rfl:t=n:=by omega
   have kn:¬(t:Int)<t:=by omega
   go_wp2;go_ret;refine⟨bW (Z eA) (Z HB),δ ⟨rfl,λhT=>?_⟩⟩;have hm:=(Z HK).2 hT;have hX:=Z HX;rw[bG (by omega)]at hX;exact hX _ hm rfl
theorem Jw (h:RD N1 U w rd rc J H P)(hU:∀k,U k->Tag w k 34)(hl:(ei H++P.flatten).length<=100000)(hH:H.length<=1000000)(hP:P.length<=1000000)(hr:RC N1 w rc rz sz m rb rt Q)(eH:∀s∈Q,KP m s)(f_:1<=sz/\sz<=64/\(m:Int)=64/sz)(hm:m<=64)(hn:Q.length<=10000)(oN oA:Int):
  Calls prog 156 #[.pointer (some ⟨rd,0,none⟩),.agg #[.int .i64 oN,.int .i64 oA]] w λev w'=>Below w.heap.size w w'/\((ev=.returned (.bool true)/\iM m sz Q oN oA/\(oN,oA)∉ei H++P.flatten)\/(ev=.returned (.bool false)/\¬(iM m sz Q oN oA/\(oN,oA)∉ei H++P.flatten))):=by
 have F1:=χ (γ w.heap.size w) (cB oN oA);have B1:=Mg.Bx.new w oN oA;have HT:=I (SE (h.b hU F1) hl hH hP);have cZ:=I F1;have Dn:=I B1;have YU:=I (λW (hW:Below w.heap.size w W)=>Bh (hr.b hW) eH f_ hm hn oN oA);have Dp:=I (λW (hW:Below w.heap.size w W)=>(hW.cell (p:=⟨rd,0,none⟩) h.tg.lt).trans h.c0);clear h hr eH f_ hm hn F1 B1 hH hP;unfold ptr at*;generalize ei H++P.flatten=L at*;go_enter func156,ntmps156;go_upto_region 1 with(fail);generalize w.alloc (cB oN oA)=W1 at*;go_wp2_with fail;refine(Z HT).mono ?_;rintro ev w2⟨v,rfl,o2,b2⟩;obtain⟨p,cp,rfl⟩:=aX o2;have HO:=I o2;have kg:=I ((Z Dn).b b2);have eA:=I (bW (Z cZ) b2);generalize hn:L.length=n at*;have gM:=I hn;clear HT o2 b2 Dn cZ hn;go_wp2_with fail;go_loopw [6] (λs6 wr=>∃t:Nat,s6=.int .i64 t/\t<=n/\Hid (∀o∈L.take t,o≠(oN,oA))/\Hid (Below w2.heap.size w2 wr)) (λs _=>n-(intOf s).toNat)
 case atStart=>exact⟨0,rfl,Γ _,λo ho=>(by cases ho),γ _ _⟩
 case round =>
  obtain⟨t,rfl,ht,HX,HB⟩:=hrel;obtain⟨y0,y1⟩:=(Z kg).b (Z HB);simp only at y0 y1;by_cases Jv:t<n
  ·have aaT:(t:Int)<n:=by omega
   have zq:(0:Int)<=t:=by omega
   obtain⟨x,y,jl⟩:∃x y,L[t]?=some (x,y):=⟨_,_,ξ (by rw[Z gM];exact Jv)⟩;obtain⟨gr,rfl,x0,x1⟩:=jb (aN (Z HO) (Z HB)) (Z gM) jl;have sU:=I jl;clear jl;by_cases hx:x=oN
   ·subst hx;by_cases hy:y=oA
    ·subst hy;have hd:decide (y=y)=true:=by simp
     go_wp2_with fail;go_quiet (fail);go_wp2;go_ret;exact⟨iB (bW (Z eA) (Z HB)) _,δ ⟨rfl,λhh=>hh.2 (aH (Z sU))⟩⟩
    ·have hd:decide (y=oA)=false:=by simpa using hy
     have HN:Hid (∀o∈L.take (t+1),o≠(x,oA)):=λo ho e=>by
      rw[cK,Z sU]at ho;rcases aC.1 ho with h|h
      ·exact(Z HX) o h e
      ·simp only[fG,aw]at h;rw[h]at e;exact hy (ba Prod.snd e)
     go_wp2_with fail;go_quiet (fail);go_wp2_with fail;go_roundw;case rel=>exact⟨t+1,by go_num,by omega,HN,iB (Z HB) _⟩
     case measure=>simp[intOf];omega
   ·have hd:decide (x=oN)=false:=by simpa using hx
    have HN:Hid (∀o∈L.take (t+1),o≠(oN,oA)):=λo ho e=>by
     rw[cK,Z sU]at ho;rcases aC.1 ho with h|h
     ·exact(Z HX) o h e
     ·simp only[fG,aw]at h;rw[h]at e;exact hx (ba Prod.fst e)
    go_wp2_with fail;go_quiet (fail);go_wp2_with fail;go_roundw;case rel=>exact⟨t+1,by go_num,by omega,HN,iB (Z HB) _⟩
    case measure=>simp[intOf];omega
  ·obtain rfl:t=n:=by omega
   have kn:¬(t:Int)<t:=by omega
   have Zo:Hid ((oN,oA)∉L):=λhm=>by
    have hX:=Z HX;rw[bG (by rw[Z gM];exact ζ _)]at hX;exact hX _ hm rfl
   have ZG:=I (bW (Z eA) (Z HB));have HK:=I (λw3 (hb3:Below wr.heap.size wr w3)=>(show w3.cell? ⟨rd,0,none⟩=some (.pointer (some ⟨rc,0,none⟩))/\w3.cell? ⟨w.heap.size,0,none⟩=some (.int .i64 oN)/\w3.cell? ⟨w.heap.size,1,none⟩=some (.int .i64 oA)from
    ⟨(Z Dp) w3 (bW (Z ZG) hb3),(hb3.cell (p:=⟨w.heap.size,0,none⟩) (aa wr _ y0)).trans y0,(hb3.cell (p:=⟨w.heap.size,1,none⟩) (aa wr _ y1)).trans y1⟩))
   have c0:=(Z Dp) wr (Z ZG);clear kg HX HO eA HB;go_wp2_with fail;go_region_held3 (λw'=>w'.cell? ⟨rd,0,none⟩=some (.pointer (some ⟨rc,0,none⟩))/\w'.cell? ⟨w.heap.size,0,none⟩=some (.int .i64 oN)/\w'.cell? ⟨w.heap.size,1,none⟩=some (.int .i64 oA)) (first|(go_keep;done)|exact(Z HK) _ (dw _)|exact(Z HK) _ (bW (dw _) (by assumption))) ((go_at_call 211;refine((Z YU) _ (bW (Z ZG) (dw _))).mono ?_;rintro ev w5⟨b5,hev⟩;obtain⟨bb,rfl,NG⟩:∃bb:Bool,ev=.returned (.bool bb)/\Hid ((bb=true/\iM m sz Q oN oA)\/(bb=false/\¬iM m sz Q oN oA)):=(by rcases hev with⟨G,O⟩|⟨G,O⟩;exact⟨true,G,ε ⟨rfl,O⟩⟩;exact⟨false,G,δ ⟨rfl,O⟩⟩);clear hev));go_wp2;go_ret;refine⟨bW (Z ZG) (bW (dw _) b5),?_⟩;rcases Z NG with⟨rfl,O⟩|⟨rfl,O⟩
   ·exact ε ⟨rfl,O,Z Zo⟩
   ·exact δ ⟨rfl,λhh=>O hh.1⟩
end
theorem Jx:(prog.info? 32).map (λi=>(i.zero,i.size,i.bytes))=some (some (.slice none 0 0),1,24):=by kernel_rfl
def PW (U:Nat->Prop)(w:World)(vs:List Value)(P:List (List Bl)):Prop:=vs.length=P.length/\∀(i:Nat) (xs:List Bl),P[i]?=some xs->∃u:Value,vs[i]?=some u/\OS U w u xs
section
variable {U ab7:Nat->Prop}{w w':World}{J:Nat}{P:List (List Bl)}{v:Value}{vs:List Value}
theorem PW.snoc (h:PW U w vs P){u:Value}{t:List Bl}(hu:OS U w u t):PW U w (vs++[u]) (P++[t]):=by
 refine⟨by simp[h.1],λi xs hi=>?_⟩;by_cases e:i<P.length
 ·rw[ar e]at hi;obtain⟨u',G,O⟩:=h.2 i xs hi;exact⟨u',by rw[ar (by rw[h.1];exact e)];exact G,O⟩
 ·have hl:=(ν.1 hi).1;simp only[φ,ag]at hl;obtain rfl:i=P.length:=by omega
  rw[aq (ζ _)]at hi;simp only[Nat.sub_self,υ,τ]at hi;subst hi;exact⟨u,by rw[<- h.1];simp,hu⟩
theorem PW.keep (h:PW U w vs P)(D:∀(v:Value) (xs:List Bl),OS U w v xs->OS ab7 w' v xs):PW ab7 w' vs P:=⟨h.1,λi xs hi=>by
 obtain⟨u,G,O⟩:=h.2 i xs hi;exact⟨u,G,D _ _ O⟩⟩
theorem OS.one {xs:List Bl}(h:OS U w v xs):v.oneCell'=true:=by
 rcases h with⟨rfl,_⟩|⟨b,cp,rfl,_⟩<;>rfl
theorem PW.one (h:PW U w vs P):∀u∈vs,u.oneCell'=true:=λu hu=>by
 obtain⟨i,hi⟩:=List.getElem?_of_mem hu;obtain⟨xs,hx⟩:∃xs,P[i]?=some xs:=⟨_,ξ (by rw[<- h.1];exact(ν.1 hi).1)⟩;obtain⟨u',G,O⟩:=h.2 i xs hx;rw[hi]at G;cases G
 exact O.one
theorem PV.vals (h:PV U w v P):(v=.slice none 0 0/\P=[])\/∃b cp vs,v=.slice (some ⟨b,0,none⟩) P.length cp/\b<w.heap.size/\(∀j u,vs[j]?=some u->w.cell? ⟨b,j,none⟩=some u)/\PW U w vs P:=by
 rcases h with h|⟨b,cp,rfl,O,h3,h4,h5⟩
 ·exact ε h
 ·have hv:∀i xs,P[i]?=some xs->∃u,((List.range P.length).map λi=>(w.cell? ⟨b,i,none⟩).getD (.int .i64 0))[i]?=some u/\w.cell? ⟨b,i,none⟩=some u/\OS U w u xs:=λi xs hi=>by
   obtain⟨u,h6,h7⟩:=h5 i xs hi;have hl:=(ν.1 hi).1;exact⟨u,by rw[dy,List.getElem?_range hl];simp[h6],h6,h7⟩
  refine δ ⟨b,cp,(List.range P.length).map λi=>(w.cell? ⟨b,i,none⟩).getD (.int .i64 0),rfl,h4.lt,λj u E=>?_,by simp,λi xs hi=>?_⟩
  ·have hl:=(ν.1 E).1;simp only[eT,List.length_range]at hl;obtain⟨u',h6,h7,_⟩:=hv j _ (ξ hl);rw[E]at h6;cases h6
   exact h7
  ·obtain⟨u,h6,_,h7⟩:=hv i xs hi;exact⟨u,h6,h7⟩
theorem PW.pv {B n:Nat}(h:PW U w vs P)(o:w.ownsRow B 32 1 v n vs)(hn:n=P.length):PV U w v P:=by
 subst hn;rcases id o.2 with⟨G,O⟩|⟨g,cap,cur,rfl,J,hg,hle,gB,_⟩
 ·exact ε ⟨G,bf.1 O⟩
 ·refine δ ⟨g,cap,rfl,hle,gB,⟨cur,_,hg⟩,λi xs hi=>?_⟩;obtain⟨u,G,O⟩:=h.2 i xs hi;have hl:=(ν.1 hi).1;exact⟨u,(o.cellAt i (by omega)).trans G,O⟩
theorem Fu {ops:Array Oper}{rest:List Oper}{o:Oper}{a:Act}{ab5:Exit->Act->World->Prop}(hgd:o.guard=none)(s x:Operand)
  (ho:o.op=.call {callee:=.builtin .append,args:=#[s,x],argTypes:=#[162,162]})(base:Nat)(hs:a.eval s=.slice none 0 0){vx:Value}(hx:a.eval x=vx)(hos:PV U w vx P)(hlen:P.length<=1000000)(hbase:base<=w.heap.size)
  (h:∀v' w' vs,w'.ownsRow base 32 1 v' P.length vs->w.grownBy w' none->PW U w vs P->wpList prog ops ab5 rest (a.put o.dst v') w'):wpList prog ops ab5 (o::rest) a w:=by
 obtain⟨i0,eO,hz0,hz1,hz2⟩:=aY Jx;rcases hos.vals with⟨rfl,rfl⟩|⟨b,cp,vs,rfl,O,h3,h4⟩
 ·refine dO hgd s x 162 ho base 32 i0 1 underlying162 eO (.slice none 0 0) 0 [] hs (Ξ _ _ _ _) hx ?_;exact h _ w [] (Ξ _ _ _ _) ⟨rfl,rfl,rfl,ζ _,λ_ _ _=>rfl⟩ ⟨rfl,λi xs hi=>by cases hi⟩
 ·refine Ω w hgd s x 162 ho base 32 i0 (.slice none 0 0) 1 24 underlying162 eO hz0 hz1 hz2 rfl (by decide) (.slice none 0 0) 0 [] hs (Ξ _ _ _ _) ⟨b,0,none⟩ P.length cp vs hx (by rw[h4.1];omega) (λj u hu=>by rw[Bd.eZ,bj];exact h3 j u hu) h4.one (by unfold maxLen;omega) (by omega) hbase λv' w' h7 h8 _=>?_;rw[bj,aT]at h7;exact h v' w' vs h7 h8 h4
end
inductive yB (a b:List Bl)(i:Nat)(o:Bl)(H:List (List Bl×List Bl))(P:List (List Bl)):List (List Bl×List Bl)->List (List Bl)->Prop
 |room (h:a.length≠4):yB a b i o H P (H.set i (a++[o],b)) P
 |swap (h:a.length=4) (O:b=[]):yB a b i o H P (H.set i ([o],a)) P
 |iF (h:a.length=4) (O:b≠[]):yB a b i o H P (H.set i ([o],b)) (P++[a])
section
variable {N1:Nat}{U ab7:Nat->Prop}{w w':World}{rd rc J:Nat}{H:List (List Bl×List Bl)}{P:List (List Bl)}
theorem Bi (h:RD N1 U w rd rc J H P)(hU:∀k,U k->Tag w k 34){i:Nat}{a b:List Bl}(hi:H[i]?=some (a,b))(ha:a.length<=4)(hp:P.length<=100000){oN oA:Int}(K:∀W,Below w.heap.size w W->Calls prog 156 #[.pointer (some ⟨rd,0,none⟩),.agg #[.int .i64 oN,.int .i64 oA]] W λev w'=>ev=.returned (.bool true)/\Below W.heap.size W w'):
  Calls prog 84 #[.pointer (some ⟨rd,0,none⟩),.int .i64 (i:Int),.agg #[.int .i64 oN,.int .i64 oA]] w λev w'=>ev=.returned (.int .i64 0)/\∃v8 H' P',yB a b i (oN,oA) H P H' P'/\RD N1 (λj=>U j\/OB v8 j) w' rd rc J H' P'/\(∀j,OB v8 j->Tag w' j 34/\w.heap.size<=j)/\bD [some 164,some 185] N1 w w':=by
 have ja:i<H.length:=(ν.1 hi).1;have F1:=χ (γ w.heap.size w) (cB oN oA);have q':=θ w #[.int .i64 oN,.int .i64 oA] 34;have R1:Rx (w.alloc (cB oN oA)) w.heap.size (.int .i64 oN) (.int .i64 oA):=⟨q' 0,q' 1,λo=>aG _ _ w.heap.size o rfl,bB _ _ _⟩;have D1:=h.b hU F1;have HW:=I (oq D1 ja);have HC:=I (K _ F1);have hs1:w.heap.size<(w.alloc (cB oN oA)).heap.size:=by simp
 obtain⟨cp,e1⟩:=h.c1;obtain⟨va,vb,x1,x2,x3,x4⟩:=h.hd i a b hi;have Gi:(0:Int)<=i:=by omega
 have Gk:(i:Int)<H.length:=by omega
 have HD:=I h;have HU:=I hU;have cZ:=I F1;have fk:=I R1;have HI:=I hi;have PX:=h.tg.lt;have Un:=h.th.lt;obtain⟨pa,ca,rfl,_⟩:=x3.len;obtain⟨Y,cb,rfl,_⟩:=x4.len;have Nj:=I x3;have WV:=I x4;obtain⟨i0,eO,hz0,hz1,hz2⟩:=aY kD;have LM:=I eO;have HZ0:=I hz0;have eI:=I hz1;have eJ:=I hz2;obtain⟨j0,Cn,Ao,wK,uV⟩:=aY Jx;have HJ0:=I Cn;have ZH:=I Ao;have Cq:=I wK;have KL:=I uV;obtain⟨b0,b1,_,_⟩:=R1;clear h hU K F1 q' D1 hi x3 x4 eO hz0 hz1 hz2 Cn Ao wK uV;go_enter func84,ntmps84;go_upto_region 1 with(fail);generalize w.alloc (cB oN oA)=W1 at*;go_wp2_with fail;refine(Z HW).mono ?_;rintro ev w1⟨rfl,rfl⟩;clear HW;go_wp2_with fail;refine(Z HC).mono ?_;rintro ev w2⟨rfl,b2⟩;have F2:=bW (Z cZ) b2;have F3:Below w.heap.size w (w2.alloc (.cells #[.slice pa a.length ca,.slice Y b.length cb] 185)):=χ F2 _;have b3:=χ (γ w2.heap.size w2) (.cells #[.slice pa a.length ca,.slice Y b.length cb] 185);have e12:=(F2.cell (p:=⟨rd,1,none⟩) PX).trans e1;have x12:=(F2.cell (p:=⟨J,i*2,none⟩) Un).trans x1;have x22:=(F2.cell (p:=⟨J,i*2+1,none⟩) Un).trans x2;have T3:Hid (TW N1 U w rd rc J oN oA H P w2.heap.size w.heap.size (.slice pa a.length ca) (.slice Y b.length cb) (w2.alloc (.cells #[.slice pa a.length ca,.slice Y b.length cb] 185))):=
  ⟨(Z HD).b (Z HU) F3,bD.below F3,B2.new _ _ _ 185,bB _ _ _,F2.size,((Z fk).b b2).b b3,ζ _,⟨PX,Un⟩,Z HU⟩
 have X3:=I ((Z Nj).b F3);have X4:=I ((Z WV).b F3);clear HC F2 F3 b3 b2 e1 x1 x2 fk cZ Nj WV b0 b1 hs1;go_upto_region 8 with(fail);generalize w2.alloc (.cells #[.slice pa a.length ca,.slice Y b.length cb] 185)=W3 at*;generalize w2.heap.size=q2 at*;clear e12 x12 x22;obtain⟨c0,c1,cf,cl⟩:=(Z T3).bx;have f0:=cf 0;have f1:=cf 1;clear cf;by_cases h4:a.length=4
 ·rw[h4]at c0 T3 X3;by_cases hb0:b=[]
  ·subst hb0;have T5:=I (((Z T3).ny (.slice Y 0 cb)).ND (.slice pa 4 ca));have OC:Hid (OS U ((W3.setCell ⟨q2,0,none⟩ (.slice Y 0 cb)).setCell ⟨q2,1,none⟩ (.slice pa 4 ca)) (.slice Y 0 cb) []):=(Z T3).os (Z T5) (Z X4);have OY:=I ((Z T3).os (Z T5) (Z X3));have HG:Hid (yB a [] i (oN,oA) H P (H.set i ([]++[(oN,oA)],a)) P):=yB.swap h4 rfl;simp only[aA]at c1;go_upto_region 15 with(fail);generalize(W3.setCell ⟨q2,0,none⟩ (.slice Y 0 cb)).setCell ⟨q2,1,none⟩ (.slice pa 4 ca)=W5 at*;clear c0 c1 f0 f1;obtain⟨c0,c1,_,cl⟩:=(Z T5).bx;have WX:=(Z T5).rx.c0;have WY:=(Z T5).rx.c1;have Ss:=I (Z T5).ch.size;clear T3;have hr5:w.heap.size<W5.heap.size:=(Z T5).rx.tg.lt;have eU:True:=trivial;go_wp2_with (first
    |(at_builtin;have _t:=eU;refine js (U:=U) rfl (.tmp 57) (.tmp 59) rfl W5.heap.size _ 0 [] rfl (Ξ _ _ _ _) rfl (Z OC) (by first|omega|simp) (ζ _) ?_;intro v6 w6 o6 q6;have b6:Below W5.heap.size W5 w6:=(γ _ _).grown q6 (ζ _) (λk D=>by cases D);have T6:=I ((Z T5).b b6);have O6:=I o6;have B6:=I b6;have WZ:=(Z T6).bx.c0;have Jy:=(Z T6).bx.fz 0;have Jz:=(Z T6).rx.c0;have JA:=(Z T6).rx.c1;clear o6 q6 b6 eU)
    |(at_builtin;refine Pr rfl (.tmp 61) (.tmp 63) rfl W5.heap.size _ _ _ rfl (aN (Z O6) (χ (γ _ _) _)) (by simp[Act.eval]) (by first|omega|simp) (σ (Z B6).size (by simp)) ?_;intro g8 c8 w8 o8 q8 yC W_;have B7:=I (bW (Z B6) (χ (γ w6.heap.size w6) (cB oN oA)));have b8:Below W5.heap.size W5 w8:=(Z B7).grown q8 (Z B7).size (bL (Z O6));have B8:=I b8;have O8:=I o8;have Xa:=((Z T5).b b8).bx.c0;have JB:=((Z T5).b b8).bx.fz 0;clear o8 q8 b8 yC W_))
   have Bj:w8.ownsRow W5.heap.size 34 2 (.slice (some ⟨g8,0,none⟩) 1 c8) 1 (flat (([]:List Bl)++[(oN,oA)])):=by simpa[flat]using Z O8
   have T8:=(Z T5).b (Z B8);have T9:=I (T8.ny (.slice (some ⟨g8,0,none⟩) 1 c8));have yC:Tag w8 g8 34:=Bf Bj;have hgn:g8≠q2:=yC.ne T8.tp (by decide);have oG:W5.heap.size<=g8:=bL Bj g8 rfl;have Dq:∀k,(U k\/OB (.slice (some ⟨g8,0,none⟩) 1 c8) k)->Tag w8 k 34:=λk D=>by
    rcases D with D|D
    ·exact T8.u k D
    ·obtain rfl:g8=k:=ah D;exact yC
   have JC:∀k,(U k\/OB (.slice (some ⟨g8,0,none⟩) 1 c8) k)->(w8.setCell ⟨q2,0,none⟩ (.slice (some ⟨g8,0,none⟩) 1 c8)).heap[k]?=w8.heap[k]?:=λk D=>μ _ _ _ _ (λe=>(Dq k D).ne T8.tp (by decide) e);have Ev:OS (λj=>U j\/OB (.slice (some ⟨g8,0,none⟩) 1 c8) j) w8 (.slice (some ⟨g8,0,none⟩) 1 c8) (([]:List Bl)++[(oN,oA)]):=OS.own (B:=W5.heap.size) (k:=1) Bj (by simp) (λj E=>δ E);have O9:=I (Ev.keep JC (by simp[World.setCell]) (λ_ h=>h));have PY:=T8.ny (.slice (some ⟨g8,0,none⟩) 1 c8);have V9:Hid (OS (λj=>U j\/OB (.slice (some ⟨g8,0,none⟩) 1 c8) j) (w8.setCell ⟨q2,0,none⟩ (.slice (some ⟨g8,0,none⟩) 1 c8)) (.slice pa 4 ca) a):=((Z T5).os PY (Z OY)).keep (λ_ _=>rfl) (ζ _) (λ_ h=>ε h);have D9:=I ((Z T9).d.keep (ab7:=λj=>U j\/OB (.slice (some ⟨g8,0,none⟩) 1 c8) j) (λ_ _=>rfl) (λ_ _ _ _=>rfl) (ζ _) (λ_ h=>ε h));have uz:=I (λk D=>(Dq k D).blk (JC k D));clear T5 T8 O8 Bj O6 B6 B7 B8 T6 Dq JC Ev PY yC c0 c1 WZ Jy Jz JA Xa JB WX WY OY OC;generalize w8.setCell ⟨q2,0,none⟩ (.slice (some ⟨g8,0,none⟩) 1 c8)=W9 at*;obtain⟨c0,c1,_,_⟩:=(Z T9).bx;obtain⟨yA,e7⟩:=(Z T9).d.c1;obtain⟨u1,u2,GC,PN,_,_⟩:=(Z T9).d.hd i _ _ (Z HI);have PO:=(Z T9).d.fh (i*2);have PR:=(Z T9).d.fh (i*2+1);have ot:rd≠J:=(Z T9).d.tg.ne (Z T9).d.th (by decide);have P_:q2≠J:=(Z T9).np.2.1;obtain⟨Qa,Dr⟩:=(Z D9).put (Z uz) ja (Z O9) (Z V9);have K8:Hid ((((W9.setCell ⟨J,i*2,none⟩ (.slice (some ⟨g8,0,none⟩) 1 c8)).setCell ⟨J,i*2+1,none⟩ (.slice pa 4 ca))).drew.cell? ⟨rd,1,none⟩=some (.slice (some ⟨J,0,none⟩) H.length yA)/\(((W9.setCell ⟨J,i*2,none⟩ (.slice (some ⟨g8,0,none⟩) 1 c8)).setCell ⟨J,i*2+1,none⟩ (.slice pa 4 ca))).drew.cell? ⟨q2,0,none⟩=some (.slice (some ⟨g8,0,none⟩) 1 c8)/\(((W9.setCell ⟨J,i*2,none⟩ (.slice (some ⟨g8,0,none⟩) 1 c8)).setCell ⟨J,i*2+1,none⟩ (.slice pa 4 ca))).drew.cell? ⟨q2,1,none⟩=some (.slice pa 4 ca)):=by
    have jk:=(((Z T9).bx.off (a:=⟨J,i*2,none⟩) (λe=>P_ e.symm) (.slice (some ⟨g8,0,none⟩) 1 c8)).off (a:=⟨J,i*2+1,none⟩) (λe=>P_ e.symm) (.slice pa 4 ca)).b (dw _);exact⟨(bu (λe=>by injection e with e1;first|exact ot e1|exact ot e1.symm)).trans ((bu (λe=>by injection e with e1;first|exact ot e1|exact ot e1.symm)).trans e7),jk.c0,jk.c1⟩
   have JD:=I (Qa.b (λk D=>((Z uz) k D).blk (Dr.same ((Z uz) k D) (by decide))) (dw _));have JE:=I (((Z T9).ch.trans (Dr.mono (by decide) (ζ _))).trans (bD.below (dw _)));have Pt:Hid (∀j,OB (.slice (some ⟨g8,0,none⟩) 1 c8) j->Tag (((W9.setCell ⟨J,i*2,none⟩ (.slice (some ⟨g8,0,none⟩) 1 c8)).setCell ⟨J,i*2+1,none⟩ (.slice pa 4 ca))).drew j 34/\w.heap.size<=j):=λj E=>by
    refine⟨(((Z uz) j (δ E)).blk (Dr.same ((Z uz) j (δ E)) (by decide))).b (dw _),?_⟩;obtain rfl:g8=j:=ah E;exact σ (Z Ss) oG
   clear T9 D9 O9 V9 uz Qa Dr;go_region_held3 (λw'=>w'.cell? ⟨rd,1,none⟩=some (.slice (some ⟨J,0,none⟩) H.length yA)/\w'.cell? ⟨q2,0,none⟩=some (.slice (some ⟨g8,0,none⟩) 1 c8)/\w'.cell? ⟨q2,1,none⟩=some (.slice pa 4 ca)) (first|(go_keep;done)|exact Z K8) (fail);go_wp2;go_ret;exact⟨rfl,_,_,_,Z HG,Z JD,Z Pt,Z JE⟩
  ·have hb4:(((a.length:Nat):Int)=4):=by omega
   have hbl:¬((b.length:Int)=0):=by have:=aU.2 hb0;omega
   have rk:(((b.length:Nat):Int)==0)=false:=by simpa using hbl
   have HG:Hid (yB a b i (oN,oA) H P (H.set i ([]++[(oN,oA)],b)) (P++[a])):=yB.iF h4 hb0;obtain⟨v2,e2,e3⟩:=(Z T3).d.c2;have PU:=I e3;have Zu:=I (Z T3).tp;have fd2:=(Z T3).d.fd 2;have nqr:=(Z T3).np.1;have hr3:=(Z T3).d.tg.lt;clear e3;have eU:True:=trivial;go_upto_region 15 with(first
    |(at_builtin;have _t:=eU;refine Fu (U:=U) (P:=P) rfl (.tmp 42) (.tmp 46) rfl W3.heap.size rfl rfl (Z PU) (by omega) (ζ _) ?_;intro v4 w4 vs o4 q4 GI;have b4:Below W3.heap.size W3 w4:=(γ _ _).grown q4 (ζ _) (λk D=>by cases D);have O4:=I o4;have B4:=I b4;have PW4:=I GI;have c04:=(b4.cell (p:=⟨q2,0,none⟩) cl).trans c0;clear o4 q4 b4 GI eU)
    |(at_builtin;refine fF _ rfl (.tmp 49) (.tmp 52) 162 rfl W3.heap.size 32 j0 (.slice none 0 0) 1 24 underlying162 (Z HJ0) (Z ZH) (Z Cq) (Z KL) rfl (by decide) _ _ _ rfl (aN (Z O4) (χ (γ _ _) _)) ⟨w4.heap.size,0,none⟩ 1 1 [.slice pa 4 ca] (by simp[Act.eval]) rfl (by intro j u E;match j,E with|0,E=>(simp at E;subst E;simp[Addr.add])) (by intro u hu;simp at hu;subst hu;rfl) (by omega) (by unfold maxLen;omega) (by omega) (σ (Z B4).size (by simp)) _ rfl ?_;intro g5 c5 w5 o5 q5 kE hg6;have B4b:=I (bW (Z B4) (χ (γ w4.heap.size w4) (.cells #[.slice pa 4 ca] 32)));have b5:Below W3.heap.size W3 w5:=(Z B4b).grown q5 (Z B4b).size (bL (Z O4));have B5:=I b5;have O5:=I o5;have e25:=(b5.cell (p:=⟨rd,2,none⟩) hr3).trans e2;have f25:=(b5.frozen (p:=⟨rd,2,none⟩) hr3).trans fd2;have c05:=(b5.cell (p:=⟨q2,0,none⟩) cl).trans c0;have c15:=(b5.cell (p:=⟨q2,1,none⟩) cl).trans c1;have f05:=(b5.frozen (p:=⟨q2,0,none⟩) cl).trans f0;clear o5 q5 b5 kE hg6))
   have T5b:=(Z T3).b (Z B5);have GJ:PW U w5 (vs++[.slice pa 4 ca]) (P++[a]):=((Z PW4).keep (λ_ _ h=>h.b (Z B5))).snoc ((Z X3).b (Z B5));have T5:=I ((T5b.iF (GJ.pv (Z O5) (by simp))).ny (.slice none 0 0));have OC:Hid (OS U ((w5.setCell ⟨rd,2,none⟩ (.slice (some ⟨g5,0,none⟩) (P.length+1) c5)).setCell ⟨q2,0,none⟩ (.slice none 0 0)) (.slice none 0 0) []):=ε ⟨rfl,rfl⟩;have OY:=I ((Z T3).os (Z T5) (Z X4));generalize(w5.setCell ⟨rd,2,none⟩ (.slice (some ⟨g5,0,none⟩) (P.length+1) c5)).setCell ⟨q2,0,none⟩ (.slice none 0 0)=W5 at*;clear c0 c1 f0 f1 e2 e25 f25 c05 c15 f05 c04 B4 B4b B5 O4 O5 PW4 T5b GJ PU Zu fd2;obtain⟨c0,c1,_,cl⟩:=(Z T5).bx;have WX:=(Z T5).rx.c0;have WY:=(Z T5).rx.c1;have Ss:=I (Z T5).ch.size;clear T3;have hr5:w.heap.size<W5.heap.size:=(Z T5).rx.tg.lt;have eU:True:=trivial;go_wp2_with (first
    |(at_builtin;have _t:=eU;refine js (U:=U) rfl (.tmp 57) (.tmp 59) rfl W5.heap.size _ 0 [] rfl (Ξ _ _ _ _) rfl (Z OC) (by first|omega|simp) (ζ _) ?_;intro v6 w6 o6 q6;have b6:Below W5.heap.size W5 w6:=(γ _ _).grown q6 (ζ _) (λk D=>by cases D);have T6:=I ((Z T5).b b6);have O6:=I o6;have B6:=I b6;have WZ:=(Z T6).bx.c0;have Jy:=(Z T6).bx.fz 0;have Jz:=(Z T6).rx.c0;have JA:=(Z T6).rx.c1;clear o6 q6 b6 eU)
    |(at_builtin;refine Pr rfl (.tmp 61) (.tmp 63) rfl W5.heap.size _ _ _ rfl (aN (Z O6) (χ (γ _ _) _)) (by simp[Act.eval]) (by first|omega|simp) (σ (Z B6).size (by simp)) ?_;intro g8 c8 w8 o8 q8 yC W_;have B7:=I (bW (Z B6) (χ (γ w6.heap.size w6) (cB oN oA)));have b8:Below W5.heap.size W5 w8:=(Z B7).grown q8 (Z B7).size (bL (Z O6));have B8:=I b8;have O8:=I o8;have Xa:=((Z T5).b b8).bx.c0;have JB:=((Z T5).b b8).bx.fz 0;clear o8 q8 b8 yC W_))
   have Bj:w8.ownsRow W5.heap.size 34 2 (.slice (some ⟨g8,0,none⟩) 1 c8) 1 (flat (([]:List Bl)++[(oN,oA)])):=by simpa[flat]using Z O8
   have T8:=(Z T5).b (Z B8);have T9:=I (T8.ny (.slice (some ⟨g8,0,none⟩) 1 c8));have yC:Tag w8 g8 34:=Bf Bj;have hgn:g8≠q2:=yC.ne T8.tp (by decide);have oG:W5.heap.size<=g8:=bL Bj g8 rfl;have Dq:∀k,(U k\/OB (.slice (some ⟨g8,0,none⟩) 1 c8) k)->Tag w8 k 34:=λk D=>by
    rcases D with D|D
    ·exact T8.u k D
    ·obtain rfl:g8=k:=ah D;exact yC
   have JC:∀k,(U k\/OB (.slice (some ⟨g8,0,none⟩) 1 c8) k)->(w8.setCell ⟨q2,0,none⟩ (.slice (some ⟨g8,0,none⟩) 1 c8)).heap[k]?=w8.heap[k]?:=λk D=>μ _ _ _ _ (λe=>(Dq k D).ne T8.tp (by decide) e);have Ev:OS (λj=>U j\/OB (.slice (some ⟨g8,0,none⟩) 1 c8) j) w8 (.slice (some ⟨g8,0,none⟩) 1 c8) (([]:List Bl)++[(oN,oA)]):=OS.own (B:=W5.heap.size) (k:=1) Bj (by simp) (λj E=>δ E);have O9:=I (Ev.keep JC (by simp[World.setCell]) (λ_ h=>h));have PY:=T8.ny (.slice (some ⟨g8,0,none⟩) 1 c8);have V9:Hid (OS (λj=>U j\/OB (.slice (some ⟨g8,0,none⟩) 1 c8) j) (w8.setCell ⟨q2,0,none⟩ (.slice (some ⟨g8,0,none⟩) 1 c8)) (.slice Y b.length cb) b):=((Z T5).os PY (Z OY)).keep (λ_ _=>rfl) (ζ _) (λ_ h=>ε h);have D9:=I ((Z T9).d.keep (ab7:=λj=>U j\/OB (.slice (some ⟨g8,0,none⟩) 1 c8) j) (λ_ _=>rfl) (λ_ _ _ _=>rfl) (ζ _) (λ_ h=>ε h));have uz:=I (λk D=>(Dq k D).blk (JC k D));clear T5 T8 O8 Bj O6 B6 B7 B8 T6 Dq JC Ev PY yC c0 c1 WZ Jy Jz JA Xa JB WX WY OY OC;generalize w8.setCell ⟨q2,0,none⟩ (.slice (some ⟨g8,0,none⟩) 1 c8)=W9 at*;obtain⟨c0,c1,_,_⟩:=(Z T9).bx;obtain⟨yA,e7⟩:=(Z T9).d.c1;obtain⟨u1,u2,GC,PN,_,_⟩:=(Z T9).d.hd i _ _ (Z HI);have PO:=(Z T9).d.fh (i*2);have PR:=(Z T9).d.fh (i*2+1);have ot:rd≠J:=(Z T9).d.tg.ne (Z T9).d.th (by decide);have P_:q2≠J:=(Z T9).np.2.1;obtain⟨Qa,Dr⟩:=(Z D9).put (Z uz) ja (Z O9) (Z V9);have K8:Hid ((((W9.setCell ⟨J,i*2,none⟩ (.slice (some ⟨g8,0,none⟩) 1 c8)).setCell ⟨J,i*2+1,none⟩ (.slice Y b.length cb))).drew.cell? ⟨rd,1,none⟩=some (.slice (some ⟨J,0,none⟩) H.length yA)/\(((W9.setCell ⟨J,i*2,none⟩ (.slice (some ⟨g8,0,none⟩) 1 c8)).setCell ⟨J,i*2+1,none⟩ (.slice Y b.length cb))).drew.cell? ⟨q2,0,none⟩=some (.slice (some ⟨g8,0,none⟩) 1 c8)/\(((W9.setCell ⟨J,i*2,none⟩ (.slice (some ⟨g8,0,none⟩) 1 c8)).setCell ⟨J,i*2+1,none⟩ (.slice Y b.length cb))).drew.cell? ⟨q2,1,none⟩=some (.slice Y b.length cb)):=by
    have jk:=(((Z T9).bx.off (a:=⟨J,i*2,none⟩) (λe=>P_ e.symm) (.slice (some ⟨g8,0,none⟩) 1 c8)).off (a:=⟨J,i*2+1,none⟩) (λe=>P_ e.symm) (.slice Y b.length cb)).b (dw _);exact⟨(bu (λe=>by injection e with e1;first|exact ot e1|exact ot e1.symm)).trans ((bu (λe=>by injection e with e1;first|exact ot e1|exact ot e1.symm)).trans e7),jk.c0,jk.c1⟩
   have JD:=I (Qa.b (λk D=>((Z uz) k D).blk (Dr.same ((Z uz) k D) (by decide))) (dw _));have JE:=I (((Z T9).ch.trans (Dr.mono (by decide) (ζ _))).trans (bD.below (dw _)));have Pt:Hid (∀j,OB (.slice (some ⟨g8,0,none⟩) 1 c8) j->Tag (((W9.setCell ⟨J,i*2,none⟩ (.slice (some ⟨g8,0,none⟩) 1 c8)).setCell ⟨J,i*2+1,none⟩ (.slice Y b.length cb))).drew j 34/\w.heap.size<=j):=λj E=>by
    refine⟨(((Z uz) j (δ E)).blk (Dr.same ((Z uz) j (δ E)) (by decide))).b (dw _),?_⟩;obtain rfl:g8=j:=ah E;exact σ (Z Ss) oG
   clear T9 D9 O9 V9 uz Qa Dr;go_region_held3 (λw'=>w'.cell? ⟨rd,1,none⟩=some (.slice (some ⟨J,0,none⟩) H.length yA)/\w'.cell? ⟨q2,0,none⟩=some (.slice (some ⟨g8,0,none⟩) 1 c8)/\w'.cell? ⟨q2,1,none⟩=some (.slice Y b.length cb)) (first|(go_keep;done)|exact Z K8) (fail);go_wp2;go_ret;exact⟨rfl,_,_,_,Z HG,Z JD,Z Pt,Z JE⟩
 ·have hne:¬(a.length:Int)=4:=by omega
  have hd4:decide ((a.length:Int)=4)=false:=by simpa using hne
  have T5:=T3;have OC:=X3;have OY:=X4;have HG:Hid (yB a b i (oN,oA) H P (H.set i (a++[(oN,oA)],b)) P):=yB.room h4;go_upto_region 15 with(fail);clear c0 c1 f0 f1;obtain⟨c0,c1,_,cl⟩:=(Z T5).bx;have WX:=(Z T5).rx.c0;have WY:=(Z T5).rx.c1;have Ss:=I (Z T5).ch.size;have hr5:w.heap.size<W3.heap.size:=(Z T5).rx.tg.lt;have eU:True:=trivial;go_wp2_with (first
   |(at_builtin;have _t:=eU;refine js (U:=U) rfl (.tmp 57) (.tmp 59) rfl W3.heap.size _ 0 [] rfl (Ξ _ _ _ _) rfl (Z OC) (by first|omega|simp) (ζ _) ?_;intro v6 w6 o6 q6;have b6:Below W3.heap.size W3 w6:=(γ _ _).grown q6 (ζ _) (λk D=>by cases D);have T6:=I ((Z T5).b b6);have O6:=I o6;have B6:=I b6;have WZ:=(Z T6).bx.c0;have Jy:=(Z T6).bx.fz 0;have Jz:=(Z T6).rx.c0;have JA:=(Z T6).rx.c1;clear o6 q6 b6 eU)
   |(at_builtin;refine Pr rfl (.tmp 61) (.tmp 63) rfl W3.heap.size _ _ _ rfl (aN (Z O6) (χ (γ _ _) _)) (by simp[Act.eval]) (by first|omega|simp) (σ (Z B6).size (by simp)) ?_;intro g8 c8 w8 o8 q8 yC W_;have B7:=I (bW (Z B6) (χ (γ w6.heap.size w6) (cB oN oA)));have b8:Below W3.heap.size W3 w8:=(Z B7).grown q8 (Z B7).size (bL (Z O6));have B8:=I b8;have O8:=I o8;have Xa:=((Z T5).b b8).bx.c0;have JB:=((Z T5).b b8).bx.fz 0;clear o8 q8 b8 yC W_))
  have Bj:=Z O8;rw[bj,aT]at Bj;have T8:=(Z T5).b (Z B8);have T9:=I (T8.ny (.slice (some ⟨g8,0,none⟩) (a.length+1) c8));have yC:Tag w8 g8 34:=Bf Bj;have hgn:g8≠q2:=yC.ne T8.tp (by decide);have oG:W3.heap.size<=g8:=bL Bj g8 rfl;have Dq:∀k,(U k\/OB (.slice (some ⟨g8,0,none⟩) (a.length+1) c8) k)->Tag w8 k 34:=λk D=>by
   rcases D with D|D
   ·exact T8.u k D
   ·obtain rfl:g8=k:=ah D;exact yC
  have JC:∀k,(U k\/OB (.slice (some ⟨g8,0,none⟩) (a.length+1) c8) k)->(w8.setCell ⟨q2,0,none⟩ (.slice (some ⟨g8,0,none⟩) (a.length+1) c8)).heap[k]?=w8.heap[k]?:=λk D=>μ _ _ _ _ (λe=>(Dq k D).ne T8.tp (by decide) e);have Ev:OS (λj=>U j\/OB (.slice (some ⟨g8,0,none⟩) (a.length+1) c8) j) w8 (.slice (some ⟨g8,0,none⟩) (a.length+1) c8) (a++[(oN,oA)]):=OS.own (B:=W3.heap.size) (k:=a.length+1) (by rw[dP];exact Bj) (by simp) (λj E=>δ E);have O9:=I (Ev.keep JC (by simp[World.setCell]) (λ_ h=>h));have PY:=T8.ny (.slice (some ⟨g8,0,none⟩) (a.length+1) c8);have V9:Hid (OS (λj=>U j\/OB (.slice (some ⟨g8,0,none⟩) (a.length+1) c8) j) (w8.setCell ⟨q2,0,none⟩ (.slice (some ⟨g8,0,none⟩) (a.length+1) c8)) (.slice Y b.length cb) b):=((Z T5).os PY (Z OY)).keep (λ_ _=>rfl) (ζ _) (λ_ h=>ε h);have D9:=I ((Z T9).d.keep (ab7:=λj=>U j\/OB (.slice (some ⟨g8,0,none⟩) (a.length+1) c8) j) (λ_ _=>rfl) (λ_ _ _ _=>rfl) (ζ _) (λ_ h=>ε h));have uz:=I (λk D=>(Dq k D).blk (JC k D));clear T5 T8 O8 Bj O6 B6 B7 B8 T6 Dq JC Ev PY yC c0 c1 WZ Jy Jz JA Xa JB WX WY OY OC;generalize w8.setCell ⟨q2,0,none⟩ (.slice (some ⟨g8,0,none⟩) (a.length+1) c8)=W9 at*;obtain⟨c0,c1,_,_⟩:=(Z T9).bx;obtain⟨yA,e7⟩:=(Z T9).d.c1;obtain⟨u1,u2,GC,PN,_,_⟩:=(Z T9).d.hd i _ _ (Z HI);have PO:=(Z T9).d.fh (i*2);have PR:=(Z T9).d.fh (i*2+1);have ot:rd≠J:=(Z T9).d.tg.ne (Z T9).d.th (by decide);have P_:q2≠J:=(Z T9).np.2.1;obtain⟨Qa,Dr⟩:=(Z D9).put (Z uz) ja (Z O9) (Z V9);have K8:Hid ((((W9.setCell ⟨J,i*2,none⟩ (.slice (some ⟨g8,0,none⟩) (a.length+1) c8)).setCell ⟨J,i*2+1,none⟩ (.slice Y b.length cb))).drew.cell? ⟨rd,1,none⟩=some (.slice (some ⟨J,0,none⟩) H.length yA)/\(((W9.setCell ⟨J,i*2,none⟩ (.slice (some ⟨g8,0,none⟩) (a.length+1) c8)).setCell ⟨J,i*2+1,none⟩ (.slice Y b.length cb))).drew.cell? ⟨q2,0,none⟩=some (.slice (some ⟨g8,0,none⟩) (a.length+1) c8)/\(((W9.setCell ⟨J,i*2,none⟩ (.slice (some ⟨g8,0,none⟩) (a.length+1) c8)).setCell ⟨J,i*2+1,none⟩ (.slice Y b.length cb))).drew.cell? ⟨q2,1,none⟩=some (.slice Y b.length cb)):=by
   have jk:=(((Z T9).bx.off (a:=⟨J,i*2,none⟩) (λe=>P_ e.symm) (.slice (some ⟨g8,0,none⟩) (a.length+1) c8)).off (a:=⟨J,i*2+1,none⟩) (λe=>P_ e.symm) (.slice Y b.length cb)).b (dw _);exact⟨(bu (λe=>by injection e with e1;first|exact ot e1|exact ot e1.symm)).trans ((bu (λe=>by injection e with e1;first|exact ot e1|exact ot e1.symm)).trans e7),jk.c0,jk.c1⟩
  have JD:=I (Qa.b (λk D=>((Z uz) k D).blk (Dr.same ((Z uz) k D) (by decide))) (dw _));have JE:=I (((Z T9).ch.trans (Dr.mono (by decide) (ζ _))).trans (bD.below (dw _)));have Pt:Hid (∀j,OB (.slice (some ⟨g8,0,none⟩) (a.length+1) c8) j->Tag (((W9.setCell ⟨J,i*2,none⟩ (.slice (some ⟨g8,0,none⟩) (a.length+1) c8)).setCell ⟨J,i*2+1,none⟩ (.slice Y b.length cb))).drew j 34/\w.heap.size<=j):=λj E=>by
   refine⟨(((Z uz) j (δ E)).blk (Dr.same ((Z uz) j (δ E)) (by decide))).b (dw _),?_⟩;obtain rfl:g8=j:=ah E;exact σ (Z Ss) oG
  clear T9 D9 O9 V9 uz Qa Dr;go_region_held3 (λw'=>w'.cell? ⟨rd,1,none⟩=some (.slice (some ⟨J,0,none⟩) H.length yA)/\w'.cell? ⟨q2,0,none⟩=some (.slice (some ⟨g8,0,none⟩) (a.length+1) c8)/\w'.cell? ⟨q2,1,none⟩=some (.slice Y b.length cb)) (first|(go_keep;done)|exact Z K8) (fail);go_wp2;go_ret;exact⟨rfl,_,_,_,Z HG,Z JD,Z Pt,Z JE⟩
end
theorem NH:(prog.info? 185).map (λi=>(i.zero,i.size,i.bytes))=some (some (.agg #[.slice none 0 0,.slice none 0 0]),2,48):=by kernel_rfl
theorem Bk (n:Nat)(hn:1<=n/\n<=4):∃ZZ:Array Value,(∀j,j<n*2->ZZ[j]?=some (.slice none 0 0))/\∀W:World,(Instr.makeSlice 161 (.int .i64 (n:Int)) (.int .i64 (n:Int))).run prog W=.ok (.slice (some ⟨W.heap.size,0,none⟩) n n) (W.alloc (.cells ZZ 185)):=by
 obtain⟨i0,h0,hz0,hz1,hz2⟩:=aY NH;refine⟨madeCells (Value.agg #[.slice none 0 0,.slice none 0 0]).cells (n*2),λj E=>?_,λW=>?_⟩
 ·have G:(Value.agg #[.slice none 0 0,.slice none 0 0]).cells=#[.slice none 0 0,.slice none 0 0]:=rfl;rw[G];have O:j%2=0\/j%2=1:=by omega
  unfold madeCells;rw[Array.getElem?_map,Array.getElem?_range];rcases O with O|O<;>simp[E,O]
 ·have:=run_makeSlice (P:=prog) W 161 185 i0 (.agg #[.slice none 0 0,.slice none 0 0]) underlying161 h0 hz0 .i64 .i64 n n (by omega) (by omega) (by rw[hz1];simp;omega) (by rw[hz2];omega) (by omega);rw[hz1]at this;simpa using this
theorem JF (N1 rc n:Nat)(hn:1<=n/\n<=4)(w:World)(hN:N1<=w.heap.size)(U:Nat->Prop):
  Calls prog 68 #[.pointer (some ⟨rc,0,none⟩),.int .i64 (n:Int)] w λev w'=>∃rd J,ev=.returned (.pointer (some ⟨rd,0,none⟩))/\RD N1 U w' rd rc J (List.replicate n ([],[])) []/\Below w.heap.size w w':=by
 obtain⟨ZZ,hZ,hm⟩:=Bk n hn;go_enter func68,ntmps68;go_wp2;go_ret;have e1:(w.alloc (.cells ZZ 185)).heap.size=w.heap.size+1:=by simp
 have hq:=θ (w.alloc (.cells ZZ 185)) #[.pointer (some ⟨rc,0,none⟩),.slice (some ⟨w.heap.size,0,none⟩) n n,.slice none 0 0] 164;have ht:=bB (w.alloc (.cells ZZ 185)) #[.pointer (some ⟨rc,0,none⟩),.slice (some ⟨w.heap.size,0,none⟩) n n,.slice none 0 0] 164;have hf:=λo=>aG (w:=w.alloc (.cells ZZ 185)) #[.pointer (some ⟨rc,0,none⟩),.slice (some ⟨w.heap.size,0,none⟩) n n,.slice none 0 0] 164 (w.heap.size+1) o e1.symm;rw[e1]at hq ht;have b2:=χ (γ (w.alloc (.cells ZZ 185)).heap.size (w.alloc (.cells ZZ 185))) (.cells #[.pointer (some ⟨rc,0,none⟩),.slice (some ⟨w.heap.size,0,none⟩) n n,.slice none 0 0] 164);have K:=θ w ZZ 185;have htz:=(bB w ZZ 185).b b2;have hcz:∀j,j<n*2->((w.alloc (.cells ZZ 185)).alloc (.cells #[.pointer (some ⟨rc,0,none⟩),.slice (some ⟨w.heap.size,0,none⟩) n n,.slice none 0 0] 164)).cell? ⟨w.heap.size,j,none⟩=some (.slice none 0 0):=λj E=>(b2.cell (p:=⟨w.heap.size,j,none⟩) (by rw[e1];simp)).trans ((K j).trans (hZ j E));have hfz:∀o,((w.alloc (.cells ZZ 185)).alloc (.cells #[.pointer (some ⟨rc,0,none⟩),.slice (some ⟨w.heap.size,0,none⟩) n n,.slice none 0 0] 164)).frozen? ⟨w.heap.size,o,none⟩=false:=λo=>(b2.frozen (p:=⟨w.heap.size,o,none⟩) (by rw[e1];simp)).trans (aG _ _ w.heap.size o rfl);refine⟨w.heap.size+1,w.heap.size,rfl,⟨hq 0,⟨n,by rw[List.length_replicate];exact hq 1⟩,⟨_,hq 2,ε ⟨rfl,rfl⟩⟩,λi a b hi=>?_,ht,htz,by omega,hN,hf,hfz⟩,χ (χ (γ _ _) _) _⟩;have ja:=(ν.1 hi).1;rw[List.length_replicate]at ja;rw[List.getElem?_replicate,af ja]at hi;simp only[τ,fR]at hi;obtain⟨rfl,rfl⟩:=hi;exact⟨_,_,hcz (i*2) (by omega),hcz (i*2+1) (by omega),ε ⟨rfl,rfl⟩,ε ⟨rfl,rfl⟩⟩
section
variable {N1:Nat}{U:Nat->Prop}{w w':World}{rd rc J:Nat}{H:List (List Bl×List Bl)}{P:List (List Bl)}
theorem Br (h:RD N1 U w rd rc J H P)(hU:∀k,U k->Tag w k 34){x:Int}(hx:x<0\/(H.length:Int)<=x)(oN oA:Int):
  Calls prog 84 #[.pointer (some ⟨rd,0,none⟩),.int .i64 x,.agg #[.int .i64 oN,.int .i64 oA]] w λev w'=>ev=.returned (.int .i64 2)/\Below w.heap.size w w':=by
 have F1:=χ (γ w.heap.size w) (cB oN oA);have HW:=I (Bb (h.b hU F1) hx);have HF:=I F1;clear h F1;go_enter func84,ntmps84;go_upto_region 1 with(fail);generalize w.alloc (cB oN oA)=W1 at*;go_wp2_with fail;refine(Z HW).mono ?_;rintro ev w1⟨rfl,rfl⟩;go_wp2;go_ret;exact⟨rfl,Z HF⟩
theorem wa (h:RD N1 U w rd rc J H P)(hU:∀k,U k->Tag w k 34){i:Nat}(hi:i<H.length){oN oA:Int}(K:∀W,Below w.heap.size w W->Calls prog 156 #[.pointer (some ⟨rd,0,none⟩),.agg #[.int .i64 oN,.int .i64 oA]] W λev w'=>ev=.returned (.bool false)/\Below W.heap.size W w'):
  Calls prog 84 #[.pointer (some ⟨rd,0,none⟩),.int .i64 (i:Int),.agg #[.int .i64 oN,.int .i64 oA]] w λev w'=>ev=.returned (.int .i64 9)/\Below w.heap.size w w':=by
 have F1:=χ (γ w.heap.size w) (cB oN oA);have q':=θ w #[.int .i64 oN,.int .i64 oA] 34;have q0:=q' 0;have q1:=q' 1;simp only[Δ,υ,ω]at q0 q1;have HW:=I (oq (h.b hU F1) hi);have HC:=I (K _ F1);have HF:=I F1;clear h F1 K q';go_enter func84,ntmps84;go_upto_region 1 with(fail);generalize w.alloc (cB oN oA)=W1 at*;go_wp2_with fail;refine(Z HW).mono ?_;rintro ev w1⟨rfl,rfl⟩;go_wp2_with fail;refine(Z HC).mono ?_;rintro ev w2⟨rfl,b2⟩;have eA:=I (bW (Z HF) b2);clear HC HF b2;go_wp2;go_ret;exact⟨rfl,Z eA⟩
end
end Rd
end Go.Proofs.YtcbmfakjfoggaaaGreatDoor
