/- H35 -/
import Derived.Test.YtcbmfakjfoggaaaGreatDoorA0
import Derived.Test.YtcbmfakjfoggaaaGreatDoorH31
import Derived.Test.YtcbmfakjfoggaaaGreatDoorH23
import Derived.Test.YtcbmfakjfoggaaaGreatDoorH32
import Derived.Test.YtcbmfakjfoggaaaGreatDoorH33
set_option maxHeartbeats 0
set_option maxRecDepth 100000
namespace Go.Proofs.YtcbmfakjfoggaaaGreatDoor
open _root_.Go.Proofs.Tryz Go.RowKit Go.Maps
namespace Rd
open Fr Bd Zn Dz Sb Mg
section
variable {N0:Nat}{rc rz:Nat}{sz:Int}{m:Nat}{mn lw hi:Int}{k:Nat}{fr:Nat->List Nat}{Q:List Sl}{V:Nat->Nd}{w w':World}
theorem JR {rb rt:List Nat}{jd:Nat->Nat}(h:RR N0 w rc rz sz m rb rt Q mn lw hi k jd V fr)(K:bD [some 164,some 185] N0 w w'):RR N0 w' rc rz sz m rb rt Q mn lw hi k jd V fr:=h.n_ K (by decide)
end
theorem yB.uniq {a b:List Bl}{i:Nat}{o:Bl}{H H1 H2:List (List Bl×List Bl)}{P P1 P2:List (List Bl)}(h:yB a b i o H P H1 P1)(h':yB a b i o H P H2 P2):H1=H2/\P1=P2:=by
 cases h with
 |room G =>
  cases h' with
  |room _=>exact⟨rfl,rfl⟩
  |swap O _=>exact absurd O G
  |iF O _=>exact absurd O G
 |swap G O =>
  cases h' with
  |room h3=>exact absurd G h3
  |swap _ _=>exact⟨rfl,rfl⟩
  |iF _ h3=>exact absurd O h3
 |iF G O =>
  cases h' with
  |room h3=>exact absurd G h3
  |swap _ h3=>exact absurd h3 O
  |iF _ _=>exact⟨rfl,rfl⟩
section
variable {w0:World}{N0:Nat}{U ab4:Nat->Prop}{X:Nat->Option Obj}{c z d g rc rz rd J:Nat}{sz:Int}{m:Nat}{mn lw hi:Int}{k:Nat}{nb fm F:Nat->Nat}{fr:Nat->List Nat}{ab5:Nat}{Q KY:List Sl}{V KZ:Nat->Nd}{ws:List (Nat×Nat)}{pl:List Nat}{ct:Nat->List Bl}{H:List (List Bl×List Bl)}{P:List (List Bl)}{w:World}
theorem QD.lens (h:QD w0 N0 X c z d g rc rz rd J sz m mn lw hi k nb fm F fr U ab4 ab5 Q V ws pl ct KY KZ H P w)(hQ:ab5<=1000)(hn:ws.length<=4):(ei (HH ct ws)++(PP ct pl).flatten).length<=100000/\(HH ct ws).length<=1000000/\(PP ct pl).length<=100000:=by
 have G:=rV (ct:=ct) (ws:=ws) h.q.four;have O:=pI (ct:=ct) (pl:=pl) h.q.pf;have h3:=h.q.pq;rw[φ,kJ,vU];omega
end
end Rd
namespace Pl
open Fr Bd Zn Dz Sb Mg Rd
abbrev AK:List TypeId:=[333,253,140,302,4,164,185,64,167]
def ZP (N:Nat)(ab7 L:Nat->Prop)(w:World)(b:Nat):Prop:=ab7 b\/(N<=b/\((∃κ,Tag w b κ/\κ∈AK)\/(Tag w b 3/\L b)))
section
variable {B:Nat}{C:Dc}{ab7 V' L:Nat->Prop}{X:Nat->Option Obj}{Y F ym:Nat}{S:Ds}{P:Ps}{w w':World}
theorem PD.iV (h:PD B C ab7 X Y F ym S P w)(D:Kp (ZP C.w0.heap.size ab7 L w) w w')(hL:NR C.z C.k L w)(hLd:∀j,L j->¬OB P.vl j)(hV:∀j,V' j->Tag w' j 34/\(ab7 j\/w.heap.size<=j)):PD B C V' X Y F ym S P w':=by
 have wN:∀b,PB Y F ym P b->¬ZP C.w0.heap.size ab7 L w b:=λb J hv=>by
  have D:∃o,w.heap[b]?=some o/\(kind o=none\/kind o=some 144\/(kind o=some 34/\¬ab7 b)\/(kind o=some 3/\¬L b)):=by
   rcases J with rfl|rfl|rfl|J|J
   ·obtain⟨c,f,e⟩:=h.m.tg;exact⟨_,e,δ (ε (by simp[kind]))⟩
   ·obtain⟨o,e1,e2⟩:=h.m.t.aQ;exact⟨o,e1,ε e2⟩
   ·obtain⟨o,e1,e2⟩:=h.m.y.aQ;exact⟨o,e1,ε e2⟩
   ·obtain⟨c,f,e⟩:=(ay h.m.r J).1;exact⟨_,e,δ (δ (ε ⟨by simp[kind],h.dj b J⟩))⟩
   ·obtain⟨c,f,e⟩:=(ay h.m.l J).1;exact⟨_,e,δ (δ (δ ⟨by simp[kind],λhl=>hLd b hl J⟩))⟩
  obtain⟨o,e,D⟩:=D;have nt:∀t,Tag w b t->kind o=some t:=λt ⟨c,f,e'⟩=>by rw[e]at e';cases e';simp[kind]
  rcases hv with hv|⟨_,⟨κ,JV,hm⟩|⟨h3,hl⟩⟩
  ·have:=nt 34 (h.iH b hv);rw[this]at D;rcases D with D|D|⟨_,D⟩|⟨D,_⟩
   ·cases D
   ·cases D
   ·exact D hv
   ·cases D
  ·have:=nt κ JV;rw[this]at D;rcases D with D|D|⟨D,_⟩|⟨D,_⟩
   ·cases D
   ·cases D;simp at hm
   ·cases D;simp at hm
   ·cases D;simp at hm
  ·have:=nt 3 h3;rw[this]at D;rcases D with D|D|⟨D,_⟩|⟨_,D⟩
   ·cases D
   ·cases D
   ·cases D
   ·exact D hl
 have hs:∀b,PB Y F ym P b->w'.heap[b]?=w.heap[b]?:=λb J=>D.blk b (h.m.lt J).1 (wN b J);have e:=kG (X:=X) (hs F (δ (ε rfl))) (hs ym (δ (δ (ε rfl))));have DI:∀κ∈AK,κ≠34/\κ∉Si/\κ≠3:=by decide
 have hNR:NR C.z C.k (ZP C.w0.heap.size ab7 L w) w:=by
  intro g c i h' d e1 e2 hi hv;obtain⟨g2,c2,rows,e3,o2,r2⟩:=h.k.dz.cf;have XC:=e1;rw[e3]at e1;simp only[τ,ψ,av,bI,aZ]at e1;obtain⟨rfl,rfl⟩:=e1;obtain⟨O,d2,e4,o3⟩:=r2 i hi;have xx:=e2;rw[(o2.cellAt i (by omega)).trans e4]at e2;simp only[τ,ψ,av,bI,aZ]at e2;obtain⟨rfl,rfl⟩:=e2;have ht:Tag w O 3:=fV o3;rcases hv with hv|⟨_,⟨κ,JV,hm⟩|⟨_,hl⟩⟩
  ·exact ht.ne (h.iH _ hv) (by decide) rfl
  ·exact JV.ne ht (DI κ hm).2.2 rfl
  ·exact hL _ _ _ _ _ XC xx hi hl
 have hK:DK C (λj=>V' j\/OB P.vr j) (X2 F ym X w) S w':=by
  refine h.k.iV D hNR (λb J=>?_) (λb J=>?_) (λb o e=>?_) (λj E=>?_)
  ·rcases J with J|J
   ·exact DQ.ul h.k b (ε J)
   ·exact J.1
  ·rcases J with J|⟨_,⟨κ,JV,hm⟩|⟨h3,_⟩⟩
   ·exact ε (ε J)
   ·exact δ (δ ⟨κ,JV,(DI κ hm).1,(DI κ hm).2.1⟩)
   ·exact δ (δ ⟨3,h3,by decide,by decide⟩)
  ·obtain⟨e1,e2⟩:=h.k.map e;refine⟨(D.blk b (Array.getElem?_eq_some_iff.mp e1).1 (λhv=>?_)).trans e1,e2,ε ⟨o,e⟩⟩;rcases hv with hv|⟨_,⟨κ,JV,hm⟩|⟨h3,_⟩⟩
   ·exact aj e1 e2 (h.iH b hv) rfl
   ·exact aj e1 e2 JV rfl
   ·exact aj e1 e2 h3 rfl
  ·rcases E with E|E
   ·exact⟨(hV j E).1,(hV j E).2.imp ε id⟩
   ·exact⟨(ay h.m.r E).1.blk (hs j (δ (δ (δ (ε E))))),ε (δ E)⟩
 refine⟨by rw[e];exact hK,h.m.keep hs,h.nr.keep h.k.dz (λc t hm K=>D.blk c K.lt (λhv=>?_)) (λj E=>ε E),λj E hv=>?_,h.xt,h.hB⟩
 ·have n34:t≠34:=by rintro rfl;simp at hm
  have n3:t≠3:=by rintro rfl;simp at hm
  have nAK:t∉AK:=by
   simp only[ae,aR,dg]at hm;rcases hm with rfl|rfl<;>decide
  rcases hv with hv|⟨_,⟨κ,JV,sB⟩|⟨h3,_⟩⟩
  ·exact K.ne (h.iH c hv) n34 rfl
  ·exact K.ne JV (λe=>nAK (e▸sB)) rfl
  ·exact K.ne h3 n3 rfl
 ·rcases(hV j hv).2 with hv'|hv'
  ·exact h.dj j E hv'
  ·have:=(ay h.m.r E).1.lt;omega
theorem FA.lens (h:FA C S)(hQ:S.ab5<=1000)(hn:S.ws.length<=4):(ei (HH S.ct S.ws)++(PP S.ct S.pl).flatten).length<=100000/\(HH S.ct S.ws).length<=1000000/\(PP S.ct S.pl).length<=100000:=by
 have G:=rV (ct:=S.ct) (ws:=S.ws) h.four;have O:=pI (ct:=S.ct) (pl:=S.pl) h.pf;have h3:=h.pq;rw[φ,kJ,vU];omega
end
def JW (z k:Nat)(S:Nat->Prop)(w:World):Prop:=∀g c i h n d,w.cell? ⟨z,6,none⟩=some (.slice (some ⟨g,0,none⟩) k c)->w.cell? ⟨g,i,none⟩=some (.slice (some ⟨h,0,none⟩) n d)->i<k->¬S h
section
variable {S S' T:Nat->Prop}{w w':World}{z:Nat}{mn lw hi:Int}{k:Nat}{nb:Nat->Nat}{V:Nat->Nd}{fr:Nat->List Nat}
theorem SZ (h:RZ w z mn lw hi k nb V fr)(D:Kp T w w')(ht:∀b,T b->∀t∈([252,253,38,333,291]:List TypeId),¬Tag w b t)(hn:JW z k T w):RZ w' z mn lw hi k nb V fr:=by
 have hs:eh [252,253,38,333,291] w w':=λb t hm hg=>D.blk b hg.lt (λJ=>ht b J t hm hg);have cl:=λj=>bN hs (by simp) h.tg j;obtain⟨g,c,e1,o1⟩:=h.cn;obtain⟨g2,c2,rows,e2,o2,r2⟩:=h.cf;have GC:eh [291] w w':=λb t hm ht=>hs b t (by simp at hm;simp[hm]) ht;refine⟨(cl 2).trans h.m2,(cl 3).trans h.m3,(cl 4).trans h.m4,⟨g,c,(cl 5).trans e1,bK o1 hs (by simp)⟩,⟨g2,c2,rows,(cl 6).trans e2,bK o2 hs (by simp),λi hi=>?_⟩,cY hs (by simp) h.tg,λi hi=>oo (h.rb i hi) GC (hs _ 333 (by simp) (h.rb i hi).tg) D.size,h.ok,h.ne⟩;obtain⟨h',d,e3,o3⟩:=r2 i hi;refine⟨h',d,e3,aI o3 (λb J=>?_)⟩;obtain rfl:h'=b:=by simpa[Value.ownBlock]using J
 exact D.blk h' (o3.lt _ rfl).2 (hn g2 c2 i h' _ d e2 ((o2.cellAt i (by omega)).trans e3) hi)
theorem JW.keep (h:JW z k S w)(hz:RZ w z mn lw hi k nb V fr)(hs:eh [252,38] w w')(hS:∀j,S' j->S j\/w.heap.size<=j):JW z k S' w':=by
 intro g c i h' n d e1 e2 hi hn;have cl:=bN hs (by simp) hz.tg 6;obtain⟨g2,c2,rows,e3,o2,r2⟩:=hz.cf;rw[cl,e3]at e1;simp only[τ,ψ,av,bI,aZ]at e1;obtain⟨rfl,rfl⟩:=e1;obtain⟨O,d2,e4,o3⟩:=r2 i hi;have hg:Tag w g2 38:=fV o2;have K:=(o2.cellAt i (by omega)).trans e4;rw[bN hs (by simp) hg i,K]at e2;simp only[τ,ψ,av,bI]at e2;obtain⟨rfl,rfl,rfl⟩:=e2;rcases hS _ hn with h6|h6
 ·exact h g2 c2 i O _ d2 e3 K hi h6
 ·have h7:O<w.heap.size:=(o3.lt _ rfl).2;omega
end
structure AD (C:Dc)(M:Mc)(U:Nat->Prop)(S:Ds)(w:World):Prop where
 r:∃rb rt jd,RR C.N0 w M.rc M.rz C.sz C.m rb rt S.Q C.mn C.lw C.hi C.k jd S.V C.fr
 d:RD C.N0 U w M.rd M.rc M.J (HH S.ct S.ws) (PP S.ct S.pl)
 u:∀k,U k->Tag w k 34
section
variable {C:Dc}{M:Mc}{U U' T:Nat->Prop}{S:Ds}{w w':World}
theorem AD.b (h:AD C M U S w)(J:Below w.heap.size w w'):AD C M U S w':=by
 obtain⟨rb,rt,jd,hr⟩:=h.r;exact⟨⟨rb,rt,jd,hr.b J⟩,h.d.b h.u J,λk D=>(h.u k D).b J⟩
theorem AD.iV (h:AD C M U S w)(D:Kp T w w')(ht:∀b,T b->∀t∈([252,253,38,333,291,140,302,305,4,164,185,32]:List TypeId),¬Tag w b t)(hU:∀b,T b->¬U b)(hn:JW M.rz C.k T w)(hV:∀k,U k->U' k)(hV2:∀k,U' k->U k\/Tag w' k 34):AD C M U' S w':=by
 obtain⟨rb,rt,jd,hr⟩:=h.r;have hs:eh [252,253,38,333,291,140,302,305,4,164,185,32] w w':=λb t hm hg=>D.blk b hg.lt (λJ=>ht b J t hm hg);have sX:∀ts:List TypeId,(∀t∈ts,t∈([252,253,38,333,291,140,302,305,4,164,185,32]:List TypeId))->eh ts w w':=λts hts b t hm hg=>hs b t (hts t hm) hg;refine⟨⟨rb,rt,jd,SZ hr.hz D (λb J t hm=>ht b J t ((by decide:∀t∈([252,253,38,333,291]:List TypeId),t∈([252,253,38,333,291,140,302,305,4,164,185,32]:List TypeId)) t hm)) hn,hr.K.same (sX _ (by decide)),hr.g,λg cp e=>hr.r g cp ((η (w:=w) (a:=⟨M.rz,5,none⟩) (hs M.rz 252 (by simp) hr.hz.tg)).symm.trans e)⟩,h.d.keep (λk nB=>D.blk k (h.u k nB).lt (λJ=>hU k J nB)) (sX _ (by decide)) D.size hV,λk nB=>?_⟩;rcases hV2 k nB with e|e
 ·exact(h.u k e).blk (D.blk k (h.u k e).lt (λJ=>hU k J e))
 ·exact e
end
def XD:Option Nat->Int
 |none=>0
 |some n=>(n:Int)+1
theorem JX {ct:Nat->List Bl}{a b a' b':Nat}{pl dC:List Nat}(h:kT ct a b pl a' b' dC)(ha:(ct a).length<=4)(J:(ct b).length<=4)(hp:∀t∈pl,(ct t).length=4):(ct a').length<=4:=by
 cases h with
 |keep _ _=>exact ha
 |swap _ _ _=>exact J
 |none _ _=>exact J
 |iF p t e1 _=>exact Nat.le_of_eq (hp _ (by simp))
section
variable {C:Dc}{M:Mc}{U:Nat->Prop}{S S':Ds}{w w':World}{x y:Int}{u:Bool}{r:Option Nat}{o:Bl}
theorem pK (h:AD C M U S w)(hN:C.N0<=w.heap.size){i a b:Nat}(dR:S.ws[i]?=some (a,b))(ha:S.ct a=[])(J:S.ct b=[])(hp:S.pl=[])(y:Int)(u:Bool)(hF:FA C S)(oH:∀x,x<C.k->(C.fr x).length=C.k/\∀i∈C.fr x,i<C.k){oN oA r:Int}{nu:List Sl}{pZ:Nat->Nd}
  (hR:∀(rb rt:List Nat) (jd:Nat->Nat) w1 ev w',NM C.N0 M.rc M.rz C.sz C.m rb rt S.Q C.mn C.lw C.hi C.k jd S.V C.fr y u w1 ev w'->ev=.returned (.tuple #[.agg #[.int .i64 oN,.int .i64 oA],.int .i64 r])/\(∃Uw Ux Dw,RR C.N0 w' M.rc M.rz C.sz C.m Uw Ux nu C.mn C.lw C.hi C.k Dw pZ C.fr)/\bD R4 C.N0 w1 w'):
  Calls prog 31 #[.pointer (some ⟨M.rd,0,none⟩),.int .i64 i,.int .i64 y,.bool u] w λev w'=>ev=.returned (.tuple #[.agg #[.int .i64 oN,.int .i64 oA],.int .i64 r])/\(∃Uw Ux Dw,RR C.N0 w' M.rc M.rz C.sz C.m Uw Ux nu C.mn C.lw C.hi C.k Dw pZ C.fr)/\RD C.N0 U w' M.rd M.rc M.J (HH S.ct S.ws) []/\bD R6 C.N0 w w':=by
 have SD:RD C.N0 U w M.rd M.rc M.J (HH S.ct S.ws) []:=by have:=h.d;rw[hp]at this;exact this
 have hH:=pH (ct:=S.ct) dR;rw[ha,J]at hH;refine(vP SD h.u (i:=i) hH y u (Φ:=λXE XF r' _ w2=>XE=oN/\XF=oA/\r'=r/\∃Uw Ux Dw,RR C.N0 w2 M.rc M.rz C.sz C.m Uw Ux nu C.mn C.lw C.hi C.k Dw pZ C.fr) (λW hW=>?_)).mono ?_
 ·obtain⟨rb,rt,jd,hr⟩:=(h.b hW).r;refine(qV C.N0 M.rc M.rz C.sz C.m rb rt S.Q C.mn C.lw C.hi C.k jd S.V C.fr y u W hr hF.ok hF.so hF.mm hF.le (σ hN hW.size) hF.k4 oH).mono ?_;intro ev w2 hh;obtain⟨G,O,h3⟩:=hR rb rt jd W ev w2 hh;exact⟨oN,oA,r,G,⟨rfl,rfl,rfl,O⟩,h3⟩
 ·rintro ev w2⟨XE,XF,r',W,w3,p,rfl,hW,⟨rfl,rfl,rfl,Uw,Ux,Dw,S_⟩,hc3,rfl,sx,nt⟩;have hC:bD R6 C.N0 w ((w3.setCell ⟨p,0,none⟩ (.int .i64 XE)).setCell ⟨p,1,none⟩ (.int .i64 XF)):=(((bD.below hW).trans (hc3.mono (by decide) (ζ _))).fresh sx _ _).fresh sx _ _;have hr2:=(S_.n_ (bD.set nt (Γ _) 0 (.int .i64 XE)) (by decide)).n_ (bD.set (nt.set _ _) (Γ _) 1 (.int .i64 XF)) (by decide);have n1:p≠M.rd:=λe=>by have:=SD.tg.lt;omega
  have n2:p≠M.J:=λe=>by have:=SD.th.lt;omega
  have n3:¬U p:=λhv=>by have:=(h.u p hv).lt;omega
  have O3:∀k,U k->Tag W k 34:=λk D=>(h.u k D).b hW;have Lm:=(((SD.b h.u hW).n_ O3 hc3 (by decide)).Fs nt (by decide) n1 n2 n3 0 (.int .i64 XE)).Fs (nt.set _ _) (by decide) n1 n2 n3 1 (.int .i64 XF);exact⟨rfl,⟨_,_,_,hr2⟩,Lm,hC⟩
theorem iW (h:AD C M U S w)(hN:C.N0<=w.heap.size)(hF:FA C S)(hF':FA C S')(hQ:S.ab5<=1000)(oH:∀x,x<C.k->(C.fr x).length=C.k/\∀i∈C.fr x,i<C.k)(hT:mV C S x y u r o S'):
  Calls prog 31 #[.pointer (some ⟨M.rd,0,none⟩),.int .i64 x,.int .i64 y,.bool u] w λev w'=>ev=.returned (.tuple #[bz o.1 o.2,.int .i64 (XD r)])/\AD C M U S' w'/\bD R6 C.N0 w w':=by
 have DJ:∀w',bD R6 C.N0 w w'->∀k,U k->Tag w' k 34:=λw' K k D=>(h.u k D).blk (K.same (h.u k D) (by decide));cases hT with
 |bad hx =>
  refine(Bc h.d h.u (x:=x) (by rw[kJ];exact hx) y u).mono ?_;rintro ev w2⟨rfl,hb2⟩;exact⟨rfl,h.b hb2,bD.below hb2⟩
 |lift i a b a' b' dC xs o hx dR hl K =>
  subst hx;obtain⟨oN,oA⟩:=o;have ja:i<S.ws.length:=(ν.1 dR).1;have hlen:xs.length<=4:=by
   have h4:=hF.four _ (aH dR);have:=JX hl h4.1 h4.2 hF.pf;rw[K,φ]at this;omega
  refine(yy h.d h.u (pH dR) (kT.toH hl K) K (by omega) (by rw[vU];have:=hF.pq;omega) y u).mono ?_;rintro ev w2⟨rfl,hD,hC⟩;obtain⟨rb,rt,jd,hr⟩:=h.r;have ZQ:bD R6 C.N0 w w2:=hC.mono (by decide) (ζ _);refine⟨rfl,⟨⟨rb,rt,jd,JR hr hC⟩,?_,DJ w2 ZQ⟩,ZQ⟩;have hp:=(fN (ws:=S.ws.set i (a',b')) (i:=i) (a:=a') (b:=b') dC (aP ja)).nodup_iff.1 hF'.V;simp only[a_,ae,not_or]at hp;have hna:a'∉ez ((S.ws.set i (a',b')).eraseIdx i) dC:=hp.1.2;have hab:a'≠b':=hp.1.1;have e1:HH (kQ S.ct a' xs) (S.ws.set i (a',b'))=(HH S.ct S.ws).set i (xs,S.ct b'):=by
   refine dN λj=>?_;by_cases ej:j=i
   ·subst ej;rw[aP (by rw[kJ];exact ja)];simp[HH,ja,cH,bH (Ne.symm hab)]
   ·rw[cL (cV ej)];unfold HH;rw[dy,dy,cL (cV ej)];cases E:S.ws[j]? with
    |none=>rfl
    |some q =>
     have hm:q∈(S.ws.set i (a',b')).eraseIdx i:=(List.mem_eraseIdx_iff_getElem?).2 ⟨j,ej,by rw[cL (cV ej)];exact E⟩;have G:q.1≠a':=λe=>hna (by unfold ez;exact ee _ (eE.2 ⟨q,hm,by simp[<- e]⟩));have O:q.2≠a':=λe=>hna (by unfold ez;exact ee _ (eE.2 ⟨q,hm,by simp[<- e]⟩));simp[bH G,bH O]
  have e2:PP (kQ S.ct a' xs) dC=PP S.ct dC:=yE λt ht=>bH (λe=>hna (by unfold ez;exact cX _ (by rw[<- e];exact ht))) _;show RD C.N0 U w2 M.rd M.rc M.J (HH (kQ S.ct a' xs) (S.ws.set i (a',b'))) (PP (kQ S.ct a' xs) dC);rw[e1,e2];exact hD
 |no i a b a' b' dC n hx dR hl K hn hr =>
  subst hx;obtain⟨hpl,rfl,ha0,hb0,JY⟩:=kT.bare hl hF.pf K;have e1:HH S.ct (S.ws.set i (a',b'))=HH S.ct S.ws:=by
   rw[Bo,K,JY];have:=pH (ct:=S.ct) dR;rw[ha0,hb0]at this;exact Mg.pE this
  refine(pK h hN dR ha0 hb0 hpl y u hF oH (oN:=0) (oA:=0) (r:=(n:Int)+1) (nu:=S.Q) (pZ:=S.V) (λrb rt jd w1 ev w' hR=>?_)).mono ?_
  ·cases hR with
   |no r _ hp hcc hr2 =>
    have:r=(n:Int)+1:=by
     rcases hr with⟨rfl,G⟩|⟨x1,G,O,h3,h4,rfl⟩
     ·rcases hr2 with⟨O,_⟩|⟨x2,O,h3,_⟩
      ·exact O
      ·exact absurd ⟨by omega,by omega⟩ G
     ·rcases hr2 with⟨_,h5⟩|⟨x2,h5,h6,h7,h8,h9⟩
      ·exact absurd ⟨by omega,by omega⟩ h5
      ·obtain rfl:x1=x2:=by omega
       rw[h9];split<;>rfl
    subst this;exact⟨rfl,⟨_,_,_,hp⟩,hcc⟩
   |old x2 j2 s2 _ hx2 sN hb2 =>
    rcases hr with⟨rfl,G⟩|⟨x1,G,O,h3,h4,rfl⟩
    ·exact absurd ⟨by omega,by omega⟩ G
    ·obtain rfl:x1=x2:=by omega
     rw[h3]at hb2;cases hb2
   |new x2 i q a2 _ _ _ _ hx2 sN _ hf2 =>
    rcases hr with⟨rfl,G⟩|⟨x1,G,O,h3,h4,rfl⟩
    ·exact absurd ⟨by omega,by omega⟩ G
    ·obtain rfl:x1=x2:=by omega
     rw[h4]at hf2;cases hf2
  ·rintro ev w2⟨rfl,S_,K_,hC⟩;refine⟨rfl,⟨S_,?_,DJ w2 hC⟩,hC⟩;show RD C.N0 U w2 M.rd M.rc M.J (HH S.ct (S.ws.set i (a',b'))) [];rw[e1];exact K_
 |old i a b a' b' dC x1 j s hx dR hl K G O h3 h4 =>
  subst hx;obtain⟨hpl,rfl,ha0,hb0,JY⟩:=kT.bare hl hF.pf K;have e1:HH S.ct (S.ws.set i (a',b'))=HH S.ct S.ws:=by
   rw[Bo,K,JY];have:=pH (ct:=S.ct) dR;rw[ha0,hb0]at this;exact Mg.pE this
  refine(pK h hN dR ha0 hb0 hpl y u hF oH (oN:=s.V) (oA:=s.at_*64+ff s.bm*C.sz) (r:=0) (nu:=S.Q.set j {s with bm:=s.bm||| 2^ff s.bm}) (pZ:=S.V) (λrb rt jd w1 ev w' hR=>?_)).mono ?_
  ·cases hR with
   |no r _ hp K hr2 =>
    rcases hr2 with⟨_,h5⟩|⟨x2,h5,h6,h7,_⟩
    ·exact absurd ⟨by omega,by omega⟩ h5
    ·obtain rfl:x1=x2:=by omega
     rw[h3]at h7;cases h7
   |old x2 j2 s2 _ hx2 sN hb2 hs2 hp K =>
    obtain rfl:x1=x2:=by omega
    rw[h3]at hb2;cases hb2;rw[h4]at hs2;cases hs2;exact⟨rfl,⟨_,_,_,hp⟩,K⟩
   |new x2 i q a2 _ _ _ _ hx2 sN hb2 =>
    obtain rfl:x1=x2:=by omega
    rw[h3]at hb2;cases hb2
  ·rintro ev w2⟨rfl,S_,K_,hC⟩;refine⟨rfl,⟨S_,?_,DJ w2 hC⟩,hC⟩;show RD C.N0 U w2 M.rd M.rc M.J (HH S.ct (S.ws.set i (a',b'))) [];rw[e1];exact K_
 |new i a b a' b' dC x1 n q hx dR hl K G O h3 h4 h5 h7 =>
  subst hx;obtain⟨hpl,rfl,ha0,hb0,JY⟩:=kT.bare hl hF.pf K;have e1:HH S.ct (S.ws.set i (a',b'))=HH S.ct S.ws:=by
   rw[Bo,K,JY];have:=pH (ct:=S.ct) dR;rw[ha0,hb0]at this;exact Mg.pE this
  refine(pK h hN dR ha0 hb0 hpl y u hF oH (oN:=(n:Int)) (oA:=mO 0 (S.V n)*64) (r:=0) (nu:=Sb.ins S.Q q ⟨n,mO 0 (S.V n),1⟩) (pZ:=up S.V n (kC 0 (S.V n))) (λrb rt jd w1 ev w' hR=>?_)).mono ?_
  ·cases hR with
   |no r _ hp K hr2 =>
    rcases hr2 with⟨_,h8⟩|⟨x2,h8,h9,_,h10,_⟩
    ·exact absurd ⟨by omega,by omega⟩ h8
    ·obtain rfl:x1=x2:=by omega
     rw[h4]at h10;cases h10
   |old x2 j2 s2 _ hx2 sN hb2 =>
    obtain rfl:x1=x2:=by omega
    rw[h3]at hb2;cases hb2
   |new x2 i2 q2 a2 _ _ _ _ hx2 sN hb2 hf2 hik ha2 Gp hp K =>
    obtain rfl:x1=x2:=by omega
    rw[h4]at hf2;cases hf2;subst ha2;obtain rfl:=h7.uniq Gp;exact⟨rfl,⟨_,_,_,hp⟩,K⟩
  ·rintro ev w2⟨rfl,S_,K_,hC⟩;refine⟨rfl,⟨S_,?_,DJ w2 hC⟩,hC⟩;show RD C.N0 U w2 M.rd M.rc M.J (HH S.ct (S.ws.set i (a',b'))) [];rw[e1];exact K_
theorem DL (h:AD C M U S w)(hF:FA C S)(hl:(ei (HH S.ct S.ws)++(PP S.ct S.pl).flatten).length<=100000/\(HH S.ct S.ws).length<=1000000/\(PP S.ct S.pl).length<=100000)(oN oA:Int)(b:Bool)(hb':b=true↔iM C.m C.sz S.Q oN oA/\(oN,oA)∉ei (HH S.ct S.ws)++(PP S.ct S.pl).flatten)(W:World)(hW:Below w.heap.size w W):
  Calls prog 156 #[.pointer (some ⟨M.rd,0,none⟩),.agg #[.int .i64 oN,.int .i64 oA]] W λev w'=>ev=.returned (.bool b)/\Below W.heap.size W w':=by
 have hq:=h.b hW;obtain⟨rb,rt,jd,hr⟩:=hq.r;refine(Jw hq.d hq.u hl.1 hl.2.1 (by omega) hr.K hF.ok hF.mm hF.ml hF.le oN oA).mono ?_;rintro ev w'⟨hb2,⟨rfl,G,O⟩|⟨rfl,G⟩⟩
 ·have e:b=true:=hb'.2 ⟨G,O⟩;rw[e];exact⟨rfl,hb2⟩
 ·have e:b=false:=by
   cases b with
   |false=>rfl
   |true=>exact absurd (hb'.1 rfl) G
  rw[e];exact⟨rfl,hb2⟩
theorem rZ (h:AD C M U S w)(hF:FA C S)(hQ:S.ab5<=1000)(hn:S.ws.length<=4)(hG:yj C S x o r S'):
  Calls prog 84 #[.pointer (some ⟨M.rd,0,none⟩),.int .i64 x,.agg #[.int .i64 o.1,.int .i64 o.2]] w λev w'=>ev=.returned (.int .i64 (XD r))/\∃U',AD C M U' S' w'/\bD R6 C.N0 w w'/\(∀j,U j->U' j)/\∀j,U' j->U j\/w.heap.size<=j:=by
 obtain⟨oN,oA⟩:=o;have qh:=hF.lens hQ hn;cases hG with
 |bad hx =>
  refine(Br h.d h.u (x:=x) (by rw[kJ];exact hx) oN oA).mono ?_;rintro ev w2⟨rfl,hb2⟩;exact⟨rfl,U,h.b hb2,bD.below hb2,λ_ h=>h,λ_ h=>ε h⟩
 |lV i hx ja hne =>
  subst hx;refine(wa h.d h.u (i:=i) (by rw[kJ];exact ja) (oN:=oN) (oA:=oA) (λW hW=>DL h hF qh oN oA false ⟨λh=>(by cases h),λ⟨G,O⟩=>absurd ⟨G,λu hu hm=>O (JJ.2 ⟨u,hu,hm⟩)⟩ hne⟩ W hW)).mono ?_;rintro ev w2⟨rfl,hb2⟩;exact⟨rfl,U,h.b hb2,bD.below hb2,λ_ h=>h,λ_ h=>ε h⟩
 |yes i a b kX dC qa hx dR ht hne hg =>
  subst hx;have h4:=hF.four _ (aH dR);refine(Bi h.d h.u (pH dR) h4.1 qh.2.2 (oN:=oN) (oA:=oA) (λW hW=>DL h hF qh oN oA true ⟨λ_=>⟨ht,λhm=>by
   obtain⟨u,hu,sB⟩:=JJ.1 hm;exact hne u hu sB⟩,λ_=>rfl⟩ W hW)).mono ?_
  rintro ev w2⟨rfl,v8,H',P',hgh,hD,Dq,hC⟩;obtain⟨rfl,rfl⟩:=hgh.uniq (x_.toH hg hF.V dR h4.1);obtain⟨rb,rt,jd,hr⟩:=h.r;have ZQ:bD R6 C.N0 w w2:=hC.mono (by decide) (ζ _);exact⟨rfl,_,⟨⟨rb,rt,jd,JR hr hC⟩,hD,λk D=>by
   rcases D with D|D
   ·exact(h.u k D).blk (hC.same (h.u k D) (by decide))
   ·exact(Dq k D).1⟩,ZQ,λ_ h=>ε h,λj E=>by
   rcases E with E|E
   ·exact ε E
   ·exact δ (Dq j E).2⟩
end
structure fX (N aK:Nat)(R R':Rs)(U U':Nat->Prop)(w w':World):Prop where
 k:Kp (λb=>RB aK R b\/(N<=b/\∃κ,Tag w b κ/\some κ∈R6)) w w'
 r:∀j,OB R'.vR j->OB R.vR j\/w.heap.size<=j
 t:∀j,OB R'.vT j->OB R.vT j\/w.heap.size<=j
 l:∀j,OB R'.vL j->OB R.vL j\/w.heap.size<=j
 y:∀j,OB R'.vY j->OB R.vY j\/w.heap.size<=j
 u:∀j,U' j->U j\/w.heap.size<=j
theorem Ta {w:World}{b:Nat}{o:Obj}{t:TypeId}(h:w.heap[b]?=some o)(D:kind o=some t):Tag w b t:=by
 cases o with
 |cells c e f =>
  simp only[kind,τ]at D;subst D;exact⟨c,f,h⟩
 |_=>simp[kind]at D
theorem bD.kp6 {N:Nat}{w w':World}(h:bD R6 N w w'):Kp (λb=>N<=b/\∃κ,Tag w b κ/\some κ∈R6) w w' :=
 ⟨h.os,h.tape,h.output,h.size,λk D hn=>by
  rcases h.blk k D with e|⟨G,o,O,h3⟩
  ·exact e
  ·refine absurd ⟨G,?_⟩ hn;cases hko:kind o with
   |none=>rw[hko]at h3;simp at h3
   |some t=>exact⟨t,Ta O hko,by rw[<- hko];exact h3⟩⟩
section
variable {N aK:Nat}{R R' R2:Rs}{U U' U2:Nat->Prop}{w w1 w':World}
theorem fX.refl (N aK:Nat)(R:Rs)(U:Nat->Prop)(w:World):fX N aK R R U U w w:=⟨Kp.refl _ w,λ_ h=>ε h,λ_ h=>ε h,λ_ h=>ε h,λ_ h=>ε h,λ_ h=>ε h⟩
theorem fX.below (h:Below w.heap.size w w'):fX N aK R R U U w w':=⟨Kp.below h,λ_ h=>ε h,λ_ h=>ε h,λ_ h=>ε h,λ_ h=>ε h,λ_ h=>ε h⟩
theorem fX.trans (h:fX N aK R R' U U' w w1)(k:fX N aK R' R2 U' U2 w1 w'):fX N aK R R2 U U2 w w':=by
 have hz:=h.k.size;have f:∀(a b c:Nat->Prop),(∀j,b j->a j\/w.heap.size<=j)->(∀j,c j->b j\/w1.heap.size<=j)->∀j,c j->a j\/w.heap.size<=j:=λa b c G O j E=>by
  rcases O j E with e|e
  ·exact G j e
  ·exact δ (σ hz e)
 refine⟨⟨k.k.os.trans h.k.os,k.k.tape.trans h.k.tape,k.k.output.trans h.k.output,σ hz k.k.size,λb J hn=>?_⟩,f _ _ _ h.r k.r,f _ _ _ h.t k.t,f _ _ _ h.l k.l,f _ _ _ h.y k.y,f _ _ _ h.u k.u⟩;have e1:=h.k.blk b J hn;refine(k.k.blk b (ι J hz) (λhs=>hn ?_)).trans e1;rcases hs with(rfl|hs|hs|hs|hs)|⟨G,κ,O,h3⟩
 ·exact ε (ε rfl)
 ·rcases h.r b hs with e|e
  ·exact ε (δ (ε e))
  ·omega
 ·rcases h.t b hs with e|e
  ·exact ε (δ (δ (ε e)))
  ·omega
 ·rcases h.l b hs with e|e
  ·exact ε (δ (δ (δ (ε e))))
  ·omega
 ·rcases h.y b hs with e|e
  ·exact ε (δ (δ (δ (δ e))))
  ·omega
 ·refine δ ⟨G,κ,?_,h3⟩;obtain⟨c,f,e⟩:=O;exact⟨c,f,e1.symm.trans e⟩
end
theorem JW.of {S T:Nat->Prop}{w:World}{z:Nat}{mn lw hi:Int}{k:Nat}{nb:Nat->Nat}{V:Nat->Nd}{fr:Nat->List Nat}(h:JW z k S w)(hz:RZ w z mn lw hi k nb V fr)(hT:∀b,T b->S b\/∃t,Tag w b t/\t≠3):JW z k T w:=by
 intro g c i h' n d e1 e2 hi hn;obtain⟨g2,c2,rows,e3,o2,r2⟩:=hz.cf;have XC:=e1;rw[e3]at e1;simp only[τ,ψ,av,bI,aZ]at e1;obtain⟨rfl,rfl⟩:=e1;obtain⟨O,d2,e4,o3⟩:=r2 i hi;have xx:=e2;rw[(o2.cellAt i (by omega)).trans e4]at e2;simp only[τ,ψ,av,bI]at e2;obtain⟨rfl,rfl,rfl⟩:=e2;rcases hT _ hn with e|⟨t,ht,hne⟩
 ·exact h _ _ _ _ _ _ XC xx hi e
 ·exact ht.ne (fV o3) hne rfl
structure RP (B:Nat)(C:Dc)(M:Mc)(aK:Nat)(U:Nat->Prop)(S:Ds)(R:Rs)(w:World):Prop where
 k:AD C M U S w
 m:jW B w aK M.rd R
 d:∀j,U j->¬OB R.vR j/\¬OB R.vT j
 n:JW M.rz C.k (OB R.vL) w
 lo:C.N0<=w.heap.size/\B<=w.heap.size
section
variable {B:Nat}{C:Dc}{M:Mc}{aK:Nat}{U U':Nat->Prop}{S S':Ds}{R R':Rs}{w w':World}
theorem AD.rz (h:AD C M U S w):∃nb,RZ w M.rz C.mn C.lw C.hi C.k nb S.V C.fr:=by
 obtain⟨rb,rt,jd,hr⟩:=h.r;exact⟨jd,hr.hz⟩
theorem RP.b (h:RP B C M aK U S R w)(J:Below w.heap.size w w'):RP B C M aK U S R w':=by
 obtain⟨nb,hz⟩:=h.k.rz;exact⟨h.k.b J,h.m.b J,h.d,h.n.keep hz (eo J) (λ_ h=>ε h),σ h.lo.1 J.size,σ h.lo.2 J.size⟩
theorem jW.kinds {rd:Nat}(h:jW B w aK rd R){b:Nat}(J:RB aK R b):∃t,Tag w b t/\(t=64\/t=34\/t=3\/t=167)/\(t=3->OB R.vL b)/\(t=34->OB R.vR b\/OB R.vT b):=by
 rcases J with rfl|J|J|J|J
 ·exact⟨64,h.tg,ε rfl,λe=>(by simp at e),λe=>(by simp at e)⟩
 ·exact⟨34,(ay h.r J).1,by simp,λe=>(by simp at e),λ_=>ε J⟩
 ·exact⟨34,(ay h.t J).1,by simp,λe=>(by simp at e),λ_=>δ J⟩
 ·exact⟨3,(ay h.l J).1,by simp,λ_=>J,λe=>(by simp at e)⟩
 ·exact⟨167,(ay h.y J).1,by simp,λe=>(by simp at e),λe=>(by simp at e)⟩
theorem RP.own (h:RP B C M aK U S R w)(hm:jW B w' aK M.rd R')(D:Kp (RB aK R) w w')(hr:∀j,OB R'.vR j->OB R.vR j\/w.heap.size<=j)(ht:∀j,OB R'.vT j->OB R.vT j\/w.heap.size<=j)(hl:∀j,OB R'.vL j->OB R.vL j\/w.heap.size<=j)(hy:∀j,OB R'.vY j->OB R.vY j\/w.heap.size<=j):RP B C M aK U S R' w'/\fX C.N0 aK R R' U U w w':=by
 obtain⟨nb,hz⟩:=h.k.rz;have hne:∀b,RB aK R b->∀t∈([252,253,38,333,291,140,302,305,4,164,185,32]:List TypeId),¬Tag w b t:=λb J t sB hg=>by
  obtain⟨t',G,O,_⟩:=h.m.kinds J;refine G.ne hg (λe=>?_) rfl;subst e;rcases O with rfl|rfl|rfl|rfl<;>simp at sB
 have hU:∀b,RB aK R b->¬U b:=λb J hu=>by
  obtain⟨t',G,O,_,h4⟩:=h.m.kinds J;by_cases e:t'=34
  ·rcases h4 e with h5|h5
   ·exact(h.d b hu).1 h5
   ·exact(h.d b hu).2 h5
  ·exact G.ne (h.k.u b hu) e rfl
 have hn:JW M.rz C.k (RB aK R) w:=h.n.of hz (λb J=>by
  obtain⟨t',G,O,h3,_⟩:=h.m.kinds J;by_cases e:t'=3
  ·exact ε (h3 e)
  ·exact δ ⟨t',G,e⟩)
 have hs:eh [252,38] w w':=λb t sB hg=>D.blk b hg.lt (λJ=>hne b J t ((by decide:∀t∈([252,38]:List TypeId),t∈([252,253,38,333,291,140,302,305,4,164,185,32]:List TypeId)) t sB) hg);refine⟨⟨h.k.iV D hne hU hn (λ_ h=>h) (λ_ h=>ε h),hm,λj E=>⟨λe=>?_,λe=>?_⟩,h.n.keep hz hs hl,σ h.lo.1 D.size,σ h.lo.2 D.size⟩,⟨D.mono (λ_ _ J=>ε J),hr,ht,hl,hy,λ_ h=>ε h⟩⟩
 ·rcases hr j e with e|e
  ·exact(h.d j E).1 e
  ·have:=(h.k.u j E).lt;omega
 ·rcases ht j e with e|e
  ·exact(h.d j E).2 e
  ·have:=(h.k.u j E).lt;omega
theorem RP.dep (h:RP B C M aK U S R w)(D:AD C M U' S' w')(K:bD R6 C.N0 w w')(hu:∀j,U' j->U j\/w.heap.size<=j):RP B C M aK U' S' R w'/\fX C.N0 aK R R U U' w w':=by
 obtain⟨nb,hz⟩:=h.k.rz;refine⟨⟨D,h.m.keep (λb J=>?_),λj E=>?_,h.n.keep hz (K.ep (by decide)) (λ_ h=>ε h),σ h.lo.1 K.size,σ h.lo.2 K.size⟩,⟨(bD.kp6 K).mono (λ_ _ J=>δ J),λ_ h=>ε h,λ_ h=>ε h,λ_ h=>ε h,λ_ h=>ε h,hu⟩⟩
 ·obtain⟨t',G,O,_⟩:=h.m.kinds J;refine K.same G ?_;rcases O with rfl|rfl|rfl|rfl<;>decide
 ·rcases hu j E with e|e
  ·exact h.d j e
  ·refine⟨λh'=>?_,λh'=>?_⟩
   ·have:=(ay h.m.r h').1.lt;omega
   ·have:=(ay h.m.t h').1.lt;omega
end
structure PQ (B:Nat)(C:Dc)(M:Mc)(Y F ym aK:Nat)(U ab4:Nat->Prop)(X:Nat->Option Obj)(S S0:Ds)(P:Ps)(R:Rs)(w:World):Prop where
 p:PD B C (λj=>(U j\/OB R.vR j\/OB R.vT j)\/ab4 j) X Y F ym S P w
 r:RP B C M aK U S0 R w
 o:∀j,ab4 j->¬(U j\/OB R.vR j\/OB R.vT j)
 n1:NR C.z C.k (OB R.vL) w
 n3:JW M.rz C.k (OB P.vl) w
 d3:∀j,OB R.vL j->¬OB P.vl j
section
variable {B:Nat}{C:Dc}{M:Mc}{Y F ym aK:Nat}{U U' ab4:Nat->Prop}{X:Nat->Option Obj}{S S' S0 S1:Ds}{P P':Ps}{R R':Rs}{w w':World}
theorem PQ.b (h:PQ B C M Y F ym aK U ab4 X S S0 P R w)(J:Below w.heap.size w w'):PQ B C M Y F ym aK U ab4 X S S0 P R w':=by
 obtain⟨nb,hz⟩:=h.r.k.rz;exact⟨h.p.b J,h.r.b J,h.o,h.n1.keep h.p.k.dz (eo J) (λ_ h=>ε h),h.n3.keep hz (eo J) (λ_ h=>ε h),h.d3⟩
theorem PQ.pgr (h:PQ B C M Y F ym aK U ab4 X S S0 P R w)(hp:PD B C (λj=>(U j\/OB R.vR j\/OB R.vT j)\/ab4 j) X Y F ym S' P' w')(hf:PF (λj=>(U j\/OB R.vR j\/OB R.vT j)\/ab4 j) P P' w w'):PQ B C M Y F ym aK U ab4 X S' S0 P' R w':=by
 obtain⟨nb,hz⟩:=h.r.k.rz;have hs:∀ts:List TypeId,(∀t∈ts,t∈Ug)->eh ts w w':=λts h' b t hm ht=>hf.s b t (h' t hm) ht;have hl:∀j,OB R.vL j->w'.heap[j]?=w.heap[j]?:=λj E=>hf.l j (ay h.r.m.l E).1 (h.d3 j E);have hm:jW B w' aK M.rd R:=h.r.m.keep λb J=>by
  rcases J with rfl|J|J|J|J
  ·exact hf.s b 64 (by simp) h.r.m.tg
  ·exact hf.v b (ε (δ (ε J)))
  ·exact hf.v b (ε (δ (δ J)))
  ·exact hl b J
  ·exact hf.s b 167 (by simp) (ay h.r.m.y J).1
 have hK:AD C M U S0 w':=by
  obtain⟨rb,rt,jd,hr⟩:=h.r.k.r;have hs2:=hs [252,253,38,333,291] (by decide);have hz':RZ w' M.rz C.mn C.lw C.hi C.k jd S0.V C.fr:=by
   have G:=hr.hz;have cl:=λj=>bN hs2 (by simp) G.tg j;obtain⟨g,c,e1,o1⟩:=G.cn;obtain⟨g2,c2,rows,e2,o2,r2⟩:=G.cf;refine⟨(cl 2).trans G.m2,(cl 3).trans G.m3,(cl 4).trans G.m4,⟨g,c,(cl 5).trans e1,bK o1 hs2 (by simp)⟩,⟨g2,c2,rows,(cl 6).trans e2,bK o2 hs2 (by simp),λi hi=>?_⟩,cY hs2 (by simp) G.tg,λi hi=>oo (G.rb i hi) (hs [291] (by decide)) (hs2 _ 333 (by simp) (G.rb i hi).tg) hf.z,G.ok,G.ne⟩;obtain⟨h',d,e3,o3⟩:=r2 i hi;refine⟨h',d,e3,aI o3 (λb J=>?_)⟩;obtain rfl:h'=b:=by simpa[Value.ownBlock]using J
   exact hf.l h' (fV o3) (h.n3 g2 c2 i h' _ d e2 ((o2.cellAt i (by omega)).trans e3) hi)
  exact⟨⟨rb,rt,jd,hz',hr.K.same (hs _ (by decide)),hr.g,λg cp e=>hr.r g cp ((η (w:=w) (a:=⟨M.rz,5,none⟩) (hs2 M.rz 252 (by simp) hr.hz.tg)).symm.trans e)⟩,h.r.k.d.keep (λk D=>hf.v k (ε (ε D))) (hs _ (by decide)) hf.z (λ_ h=>h),λk D=>(h.r.k.u k D).blk (hf.v k (ε (ε D)))⟩
 refine⟨hp,⟨hK,hm,h.r.d,h.r.n.keep hz (hs _ (by decide)) (λ_ h=>ε h),σ h.r.lo.1 hf.z,σ h.r.lo.2 hf.z⟩,h.o,?_,h.n3.keep hz (hs _ (by decide)) hf.l',λj E e=>?_⟩
 ·exact h.n1.keep h.p.k.dz (hs [241,38] (by decide)) (λ_ h=>ε h)
 ·rcases hf.l' j e with e|e
  ·exact h.d3 j E e
  ·have:=(ay h.r.m.l E).1.lt;omega
theorem PQ.ref (h:PQ B C M Y F ym aK U ab4 X S S0 P R w)(hN:C.w0.heap.size<=C.N0)(hr:RP B C M aK U' S1 R' w')(hf:fX C.N0 aK R R' U U' w w'):PQ B C M Y F ym aK U' ab4 X S S1 P R' w':=by
 obtain⟨nb,hz⟩:=h.r.k.rz;have hB:=h.p.hB;have DI:∀κ : TypeId,some κ∈R6->κ∈AK:=λκ hm=>by
  simp only[R6,ae,τ,aR,dg]at hm;rcases hm with rfl|rfl|rfl|rfl|rfl|rfl|rfl<;>decide
 have D:Kp (ZP C.w0.heap.size (λj=>(U j\/OB R.vR j\/OB R.vT j)\/ab4 j) (OB R.vL) w) w w':=hf.k.mono λb _ J=>by
  rcases J with J|⟨G,κ,O,h3⟩
  ·have oG:=(h.r.m.lt J).2;rcases J with rfl|J|J|J|J
   ·exact δ ⟨σ hB oG,ε ⟨64,h.r.m.tg,by decide⟩⟩
   ·exact ε (ε (δ (ε J)))
   ·exact ε (ε (δ (δ J)))
   ·exact δ ⟨σ hB oG,δ ⟨(ay h.r.m.l J).1,J⟩⟩
   ·exact δ ⟨σ hB oG,ε ⟨167,(ay h.r.m.y J).1,by decide⟩⟩
  ·exact δ ⟨σ hN G,ε ⟨κ,O,DI κ h3⟩⟩
 have hO:∀j,ab4 j->w'.heap[j]?=w.heap[j]?:=λj E=>by
  have ht:=h.p.iH j (δ E);refine hf.k.blk j ht.lt (λJ=>?_);rcases J with J|⟨_,κ,O,h3⟩
  ·obtain⟨t',h4,h5,h6,h7⟩:=h.r.m.kinds J;by_cases e:t'=34
   ·exact h.o j E (δ (h7 e))
   ·exact h4.ne ht e rfl
  ·refine O.ne ht (λe=>?_) rfl;subst e;simp at h3
 have hs2:∀t∈([252,38,241]:List TypeId),∀b,Tag w b t->w'.heap[b]?=w.heap[b]?:=λt hm b hg=>hf.k.blk b hg.lt (λJ=>by
  rcases J with J|⟨_,κ,O,h3⟩
  ·obtain⟨t',h4,h5,_⟩:=h.r.m.kinds J;refine h4.ne hg (λe=>?_) rfl;subst e;rcases h5 with rfl|rfl|rfl|rfl<;>simp at hm
  ·refine O.ne hg (λe=>?_) rfl;subst e;simp only[ae,aR,dg]at hm;rcases hm with rfl|rfl|rfl<;>simp at h3)
 refine⟨h.p.iV D h.n1 h.d3 (λj E=>?_),hr,λj E e=>?_,?_,?_,λj E e=>?_⟩
 ·rcases E with(E|E|E)|E
  ·exact⟨hr.k.u j E,(hf.u j E).imp (λe=>ε (ε e)) id⟩
  ·exact⟨(ay hr.m.r E).1,(hf.r j E).imp (λe=>ε (δ (ε e))) id⟩
  ·exact⟨(ay hr.m.t E).1,(hf.t j E).imp (λe=>ε (δ (δ e))) id⟩
  ·exact⟨(h.p.iH j (δ E)).blk (hO j E),ε (δ E)⟩
 ·have hlt:=(h.p.iH j (δ E)).lt;rcases e with e|e|e
  ·rcases hf.u j e with e|e
   ·exact h.o j E (ε e)
   ·omega
  ·rcases hf.r j e with e|e
   ·exact h.o j E (δ (ε e))
   ·omega
  ·rcases hf.t j e with e|e
   ·exact h.o j E (δ (δ e))
   ·omega
 ·exact h.n1.keep h.p.k.dz (λb t hm hg=>hs2 t (by simp at hm;rcases hm with rfl|rfl<;>simp) b hg) hf.l
 ·exact h.n3.keep hz (λb t hm hg=>hs2 t (by simp at hm;rcases hm with rfl|rfl<;>simp) b hg) (λ_ h=>ε h)
 ·have hlt:=(ay h.p.m.l e).1.lt;rcases hf.l j E with e'|e'
  ·exact h.d3 j e' e
  ·omega
end
section
variable {B:Nat}{C:Dc}{M:Mc}{aK N:Nat}{U U':Nat->Prop}{S:Ds}{R R':Rs}{w w1 w':World}
variable {r:Nat}
def BO (U:Nat->Prop)(R:Rs)(w:World)(r:Nat):Prop:=Tag w r 34/\¬(U r\/OB R.vR r\/OB R.vT r)
theorem RP.row (h:RP B C M aK U S R w)(hf:fX N aK R R' U U' w w')(hr:BO U R w r):w'.heap[r]?=w.heap[r]?/\BO U' R' w' r:=by
 have e:w'.heap[r]?=w.heap[r]?:=hf.k.blk r hr.1.lt (λJ=>by
  rcases J with J|⟨_,κ,O,h3⟩
  ·obtain⟨t',h4,h5,h6,h7⟩:=h.m.kinds J;by_cases e:t'=34
   ·exact hr.2 (δ (h7 e))
   ·exact h4.ne hr.1 e rfl
  ·refine O.ne hr.1 (λe=>?_) rfl;subst e;simp at h3)
 have hlt:=hr.1.lt;refine⟨e,hr.1.blk e,λhx=>hr.2 ?_⟩;rcases hx with hx|hx|hx
 ·rcases hf.u r hx with e|e
  ·exact ε e
  ·omega
 ·rcases hf.r r hx with e|e
  ·exact δ (ε e)
  ·omega
 ·rcases hf.t r hx with e|e
  ·exact δ (δ e)
  ·omega
theorem RP.box (h:RP B C M aK U S R w)(hr:BO U R w r)(o:Nat)(v:Value):RP B C M aK U S R (w.setCell ⟨r,o,none⟩ v):=by
 obtain⟨nb,hz⟩:=h.k.rz;have D:Kp (λb=>b=r) w (w.setCell ⟨r,o,none⟩ v):=Kp.set w r o v rfl;have hs:∀ts:List TypeId,34∉ts->eh ts w (w.setCell ⟨r,o,none⟩ v):=λts hn b t hm ht=>μ _ _ _ _ (ht.ne hr.1 (λe=>hn (e▸hm)));refine⟨h.k.iV D (λb J t hm hg=>?_) (λb J hu=>hr.2 (ε (J▸hu))) (h.n.of hz (λb J=>δ ⟨34,J▸hr.1,by decide⟩)) (λ_ h=>h) (λ_ h=>ε h),h.m.keep (λb J=>μ _ _ _ _ (λe=>?_)),h.d,h.n.keep hz (hs _ (by decide)) (λ_ h=>ε h),σ h.lo.1 D.size,σ h.lo.2 D.size⟩
 ·subst J;exact hg.ne hr.1 (by rintro rfl;simp at hm) rfl
 ·obtain⟨t',h4,h5,h6,h7⟩:=h.m.kinds J;by_cases l_:t'=34
  ·have e':b=r:=e;exact hr.2 (δ (by rw[<- e'];exact h7 l_))
  ·exact h4.ne hr.1 l_ e
theorem fX.box (hf:fX N aK R R' U U' w w1)(hr:w.heap.size<=r)(o:Nat)(v:Value):fX N aK R R' U U' w (w1.setCell ⟨r,o,none⟩ v):=
 ⟨⟨hf.k.os,hf.k.tape,hf.k.output,σ hf.k.size (by simp[World.setCell]),λb J hn=>(μ _ _ _ _ (by simp only;omega)).trans (hf.k.blk b J hn)⟩,hf.r,hf.t,hf.l,hf.y,hf.u⟩
theorem BO.set (h:BO U R w r)(a:Addr)(v:Value):BO U R (w.setCell a v) r:=⟨h.1.set a v,h.2⟩
theorem BO.b (h:BO U R w r)(J:Below w.heap.size w w'):BO U R w' r:=⟨h.1.b J,h.2⟩
theorem RP.fresh (h:RP B C M aK U S R w)(ht:Tag w' r 34)(hr:w.heap.size<=r):BO U R w' r:=⟨ht,λhx=>by
 rcases hx with hx|hx|hx
 ·have:=(h.k.u r hx).lt;omega
 ·have:=(ay h.m.r hx).1.lt;omega
 ·have:=(ay h.m.t hx).1.lt;omega⟩
end
section
variable {B:Nat}{C:Dc}{M:Mc}{aK:Nat}{U:Nat->Prop}{S:Ds}{R:Rs}{w w1 w':World}{x y:Int}
theorem RP.worker (h:RP B C M aK U S R w)(x:Int):Calls prog 88 #[.pointer (some ⟨M.rd,0,none⟩),.int .i64 x] w λev w'=>ev=.returned (.bool (decide (0<=x/\x<S.ws.length)))/\w'=w:=by
 by_cases hx:0<=x/\x<S.ws.length
 ·obtain⟨i,rfl⟩:=bw hx.1;rw[aM hx];exact oq h.k.d (by rw[kJ];omega)
 ·rw[dE hx];exact Bb h.k.d (by rw[kJ];omega)
theorem RP.node (h:RP B C M aK U S R w)(y:Int):Calls prog 89 #[.pointer (some ⟨M.rz,0,none⟩),.int .i64 y] w λev w'=>ev=.returned (.bool (decide (0<=y/\y<C.k)))/\Below w.heap.size w w':=by
 obtain⟨nb,hz⟩:=h.k.rz;exact oY M.rz C.mn C.lw C.hi C.k nb S.V C.fr y w hz
theorem RP.way (h:RP B C M aK U S R w):w.cell? ⟨M.rd,0,none⟩=some (.pointer (some ⟨M.rc,0,none⟩))/\w.cell? ⟨M.rc,0,none⟩=some (.pointer (some ⟨M.rz,0,none⟩)):=by
 obtain⟨rb,rt,jd,hr⟩:=h.k.r;exact⟨h.k.d.c0,hr.K.c0⟩
theorem yN (h:RP B C M aK U S R w)(K:R.cl=false)(jl:¬((0<=x/\x<S.ws.length)/\(0<=y/\y<C.k))):Calls prog 23 #[.pointer (some ⟨aK,0,none⟩),.int .i64 x,.int .i64 y] w λev w'=>ev=.returned (.tuple #[bz 0 0,.int .i64 2])/\Below w.heap.size w w':=by
 have F1:=χ (γ w.heap.size w) (cB 0 0);have R1:=cQ w;have H1:=h.b F1;have c7:=H1.m.c7;rw[K]at c7;have c0:=H1.m.c0;obtain⟨g0,g1⟩:=H1.way;have HW:=I (H1.worker x);have qL:=I (H1.node y);have cZ:=I F1;have fk:=I R1;clear h F1 R1 K H1;unfold bz at*;by_cases hx:0<=x/\x<S.ws.length
 ·have hy:¬(0<=y/\y<C.k):=λhy=>jl ⟨hx,hy⟩;rw[aM hx]at HW;rw[dE hy]at qL;clear jl hx hy;go_enter func23,ntmps23;go_upto_region 1 with(fail);generalize w.alloc (cB 0 0)=W at*;go_wp2_with fail;refine(Z HW).mono ?_;rintro ev w1⟨rfl,rfl⟩;go_wp2_with fail;refine(Z qL).mono ?_;rintro ev w2⟨rfl,b2⟩;obtain⟨r0,r1,bQ,rt⟩:=(Z fk).b b2;have eA:=I (bW (Z cZ) b2);have f0:=bQ 0;have f1:=bQ 1;obtain⟨t0,t1⟩:=aW r0 r1 (.int .i64 0) (.int .i64 0);clear bQ HW qL fk;go_wp2;refine Θ (v:=.tuple #[.agg #[.int .i64 0,.int .i64 0],.int .i64 2]) (by simp[results,results23,go_sem,t0,t1];try rfl) rfl ?_;exact⟨rfl,((Z eA).setCell (ζ _) _).setCell (ζ _) _⟩
 ·rw[dE hx]at HW;clear jl hx qL;go_enter func23,ntmps23;go_upto_region 1 with(fail);generalize w.alloc (cB 0 0)=W at*;go_wp2_with fail;refine(Z HW).mono ?_;rintro ev w1⟨rfl,rfl⟩;obtain⟨r0,r1,bQ,rt⟩:=Z fk;have f0:=bQ 0;have f1:=bQ 1;obtain⟨t0,t1⟩:=aW r0 r1 (.int .i64 0) (.int .i64 0);clear bQ HW fk;go_wp2;refine Θ (v:=.tuple #[.agg #[.int .i64 0,.int .i64 0],.int .i64 2]) (by simp[results,results23,go_sem,t0,t1];try rfl) rfl ?_;exact⟨rfl,((Z cZ).setCell (ζ _) _).setCell (ζ _) _⟩
end
theorem wm {w:World}{B B' e size n:Nat}{v:Value}{xs:List Value}(h:w.ownsRow B e size v n xs)(J:B'<=B):w.ownsRow B' e size v n xs:=by
 refine⟨h.1,?_⟩;rcases h.2 with e1|⟨g',cap,cur,e1,hg,hh,G,O,h3,h4⟩
 ·exact ε e1
 ·exact δ ⟨g',cap,cur,e1,σ J hg,hh,G,O,h3,h4⟩
section
variable {B:Nat}{C:Dc}{M:Mc}{aK:Nat}{U:Nat->Prop}{S:Ds}{R R':Rs}{W WA w6:World}{g4 c4 n:Nat}{oN oA:Int}
theorem RP.Qe (h:RP B C M aK U S R W)(BA:Below W.heap.size W WA)(hn:R.T.length=n)(o6:w6.ownsRow B 34 2 (.slice (some ⟨g4,0,none⟩) (n+1) c4) (n+1) (flat R.T++[.int .i64 oN,.int .i64 oA]))(q6:WA.grownBy w6 R.vT.ownBlock)(hg:R.vT.ownBlock=some g4\/g4=WA.heap.size):
  RP B C M aK U S {R with T:=R.T++[(oN,oA)],vT:=.slice (some ⟨g4,0,none⟩) (n+1) c4} (w6.setCell ⟨aK,3,none⟩ (.slice (some ⟨g4,0,none⟩) (n+1) c4))/\fX C.N0 aK R {R with T:=R.T++[(oN,oA)],vT:=.slice (some ⟨g4,0,none⟩) (n+1) c4} U U W (w6.setCell ⟨aK,3,none⟩ (.slice (some ⟨g4,0,none⟩) (n+1) c4)):=by
 have hM:=h.m;have hne:∀j,j=aK\/OB R.vR j\/OB R.vL j\/OB R.vY j->w6.heap[j]?=W.heap[j]?:=λj E=>by
  have hlt:=(hM.lt (b:=j) (by
   rcases E with h|h|h|h
   ·exact ε h
   ·exact δ (ε h)
   ·exact δ (δ (δ (ε h)))
   ·exact δ (δ (δ (δ h))))).1
  refine(q6.block j (ι hlt BA.size) (λe=>?_)).trans (BA.block j hlt);have ht:=(ay hM.t (b:=j) e.symm).1;rcases E with h|h|h|h
  ·exact ht.ne hM.tg (by decide) h
  ·exact hM.dj j h e.symm
  ·exact ht.ne (ay hM.l h).1 (by decide) rfl
  ·exact ht.ne (ay hM.y h).1 (by decide) rfl
 have J0:w6.ownsRow B 34 2 (.slice (some ⟨g4,0,none⟩) (n+1) c4) (R.T++[(oN,oA)]).length (flat (R.T++[(oN,oA)])):=by
  rw[φ,hn,bM];exact o6
 have gY:∀j,OB (.slice (some ⟨g4,0,none⟩) (n+1) c4) j->OB R.vT j\/W.heap.size<=j:=λj E=>by
  obtain rfl:g4=j:=by simpa[OB,Value.ownBlock]using E
  rcases hg with h|h
  ·exact ε h
  ·exact δ (by have:=BA.size;omega)
 have hd:∀j,OB R.vR j->¬OB (.slice (some ⟨g4,0,none⟩) (n+1) c4) j:=λj hR E=>by
  rcases gY j E with h|h
  ·exact hM.dj j hR h
  ·have:=(ay hM.r hR).1.lt;omega
 have D:Kp (RB aK R) W (w6.setCell ⟨aK,3,none⟩ (.slice (some ⟨g4,0,none⟩) (n+1) c4)):=((Kp.below BA).trans ⟨q6.os,q6.tape,q6.output,q6.size,λi hi hn=>q6.block i hi (λe=>hn (δ (δ (ε e.symm))))⟩).trans (Kp.set w6 aK 3 _ (ε rfl));exact h.own (hM.NS hne J0 hd) D (λ_ h=>ε h) gY (λ_ h=>ε h) (λ_ h=>ε h)
theorem RP.J1 (h:RP B C M aK U S R W)(BA:Below W.heap.size W WA)(hn:R.R.length=n)(o6:w6.ownsRow B 34 2 (.slice (some ⟨g4,0,none⟩) (n+1) c4) (n+1) (flat R.R++[.int .i64 oN,.int .i64 oA]))(q6:WA.grownBy w6 R.vR.ownBlock)(hg:R.vR.ownBlock=some g4\/g4=WA.heap.size):
  RP B C M aK U S {R with R:=R.R++[(oN,oA)],vR:=.slice (some ⟨g4,0,none⟩) (n+1) c4} (w6.setCell ⟨aK,2,none⟩ (.slice (some ⟨g4,0,none⟩) (n+1) c4))/\fX C.N0 aK R {R with R:=R.R++[(oN,oA)],vR:=.slice (some ⟨g4,0,none⟩) (n+1) c4} U U W (w6.setCell ⟨aK,2,none⟩ (.slice (some ⟨g4,0,none⟩) (n+1) c4)):=by
 have hM:=h.m;have hne:∀j,j=aK\/OB R.vT j\/OB R.vL j\/OB R.vY j->w6.heap[j]?=W.heap[j]?:=λj E=>by
  have hlt:=(hM.lt (b:=j) (by
   rcases E with h|h|h|h
   ·exact ε h
   ·exact δ (δ (ε h))
   ·exact δ (δ (δ (ε h)))
   ·exact δ (δ (δ (δ h))))).1
  refine(q6.block j (ι hlt BA.size) (λe=>?_)).trans (BA.block j hlt);have ht:=(ay hM.r (b:=j) e.symm).1;rcases E with h|h|h|h
  ·exact ht.ne hM.tg (by decide) h
  ·exact hM.dj j e.symm h
  ·exact ht.ne (ay hM.l h).1 (by decide) rfl
  ·exact ht.ne (ay hM.y h).1 (by decide) rfl
 have J0:w6.ownsRow B 34 2 (.slice (some ⟨g4,0,none⟩) (n+1) c4) (R.R++[(oN,oA)]).length (flat (R.R++[(oN,oA)])):=by
  rw[φ,hn,bM];exact o6
 have gY:∀j,OB (.slice (some ⟨g4,0,none⟩) (n+1) c4) j->OB R.vR j\/W.heap.size<=j:=λj E=>by
  obtain rfl:g4=j:=by simpa[OB,Value.ownBlock]using E
  rcases hg with h|h
  ·exact ε h
  ·exact δ (by have:=BA.size;omega)
 have hd:∀j,OB (.slice (some ⟨g4,0,none⟩) (n+1) c4) j->¬OB R.vT j:=λj E hT=>by
  rcases gY j E with h|h
  ·exact hM.dj j h hT
  ·have:=(ay hM.t hT).1.lt;omega
 have D:Kp (RB aK R) W (w6.setCell ⟨aK,2,none⟩ (.slice (some ⟨g4,0,none⟩) (n+1) c4)):=((Kp.below BA).trans ⟨q6.os,q6.tape,q6.output,q6.size,λi hi hn=>q6.block i hi (λe=>hn (δ (ε e.symm)))⟩).trans (Kp.set w6 aK 2 _ (ε rfl));exact h.own (hM.Fi hne J0 hd) D gY (λ_ h=>ε h) (λ_ h=>ε h) (λ_ h=>ε h)
theorem RP.Tc (h:RP B C M aK U S R W)(BA:Below W.heap.size W WA){v':Value}{T':List Bl}(o:WA.ownsRow W.heap.size 34 2 v' T'.length (flat T')):RP B C M aK U S {R with T:=T',vT:=v'} (WA.setCell ⟨aK,3,none⟩ v')/\fX C.N0 aK R {R with T:=T',vT:=v'} U U W (WA.setCell ⟨aK,3,none⟩ v'):=by
 have hM:=h.m;have gY:∀j,OB v' j->W.heap.size<=j:=λj E=>(ay o E).2;refine h.own (hM.NS (λj E=>BA.block j (hM.lt (b:=j) (by
   rcases E with h|h|h|h
   ·exact ε h
   ·exact δ (ε h)
   ·exact δ (δ (δ (ε h)))
   ·exact δ (δ (δ (δ h))))).1) (wm o h.lo.2) (λj hR E=>by have G:=gY j E;have:=(ay hM.r hR).1.lt;omega)) ((Kp.below BA).trans (Kp.set WA aK 3 _ (ε rfl))) (λ_ h=>ε h) (λj E=>δ (gY j E)) (λ_ h=>ε h) (λ_ h=>ε h)
theorem RP.aa5 (h:RP B C M aK U S R W)(BA:Below W.heap.size W WA){v':Value}{R':List Bl}(o:WA.ownsRow W.heap.size 34 2 v' R'.length (flat R')):RP B C M aK U S {R with R:=R',vR:=v'} (WA.setCell ⟨aK,2,none⟩ v')/\fX C.N0 aK R {R with R:=R',vR:=v'} U U W (WA.setCell ⟨aK,2,none⟩ v'):=by
 have hM:=h.m;have gY:∀j,OB v' j->W.heap.size<=j:=λj E=>(ay o E).2;refine h.own (hM.Fi (λj E=>BA.block j (hM.lt (b:=j) (by
   rcases E with h|h|h|h
   ·exact ε h
   ·exact δ (δ (ε h))
   ·exact δ (δ (δ (ε h)))
   ·exact δ (δ (δ (δ h))))).1) (wm o h.lo.2) (λj E hT=>by have G:=gY j E;have:=(ay hM.t hT).1.lt;omega)) ((Kp.below BA).trans (Kp.set WA aK 2 _ (ε rfl))) (λj E=>δ (gY j E)) (λ_ h=>ε h) (λ_ h=>ε h) (λ_ h=>ε h)
theorem RP.XK (h:RP B C M aK U S R W)(BA:Below W.heap.size W WA){v':Value}{L':List Nat}(o:WA.ownsRow W.heap.size 3 1 v' L'.length (dX L')):RP B C M aK U S {R with L:=L',vL:=v'} (WA.setCell ⟨aK,4,none⟩ v')/\fX C.N0 aK R {R with L:=L',vL:=v'} U U W (WA.setCell ⟨aK,4,none⟩ v'):=by
 have hM:=h.m;have gY:∀j,OB v' j->W.heap.size<=j:=λj E=>(ay o E).2;refine h.own (hM.Xq (λj E=>BA.block j (hM.lt (b:=j) (by
   rcases E with h|h|h|h
   ·exact ε h
   ·exact δ (ε h)
   ·exact δ (δ (ε h))
   ·exact δ (δ (δ (δ h))))).1) (wm o h.lo.2)) ((Kp.below BA).trans (Kp.set WA aK 4 _ (ε rfl))) (λ_ h=>ε h) (λ_ h=>ε h) (λj E=>δ (gY j E)) (λ_ h=>ε h)
end
section
variable {C:Dc}{S S':Ds}{x y:Int}{o:Bl}{r:Option Nat}{l:List Bl}
theorem yj.wl (h:yj C S x o r S')(hF:FA C S):S'.ws.length=S.ws.length:=by
 cases h with
 |bad _=>rfl
 |lV _ _ _ _=>rfl
 |yes i a b kX dC qa hx dR ht hn hg=>exact(hg.lies hF.V dR).2.2.2
theorem mH (h:yP C y S l S')(hF:FA C S):∃f:Nat->Ds,f 0=S/\f l.length=S'/\(∀i,i<=l.length->FA C (f i)/\(f i).ab5=S.ab5/\(f i).ws.length=S.ws.length)/\∀i o,l[i]?=some o->mV C (f i) 0 y true none o (f (i+1)):=by
 induction h with
 |nil=>exact⟨λ_=>S,rfl,rfl,λi hi=>⟨hF,rfl,rfl⟩,λi o h=>by simp at h⟩
 |snoc S1 S2 l o h hT hF2 ih =>
  obtain⟨f,f0,f1,f2,f3⟩:=ih;have fl:=f2 l.length (ζ _);refine⟨λi=>if i<=l.length then f i else S2,by simp[f0],by simp only[φ,ag];rw[ai (by omega)],λi hi=>?_,λi o' ho=>?_⟩
  ·by_cases e:i<=l.length
   ·simp only[af e];exact f2 i e
   ·have G:=qi hT;have O:=hT.wl;rw[<- f1]at G O;simp only[ai e];exact⟨hF2,G.trans fl.2.1,O.trans fl.2.2⟩
  ·by_cases e:i<l.length
   ·rw[ar e]at ho;simp only[af (ck e),af (show i+1<=l.length from e)];exact f3 i o' ho
   ·have hi:i<(l++[o]).length:=(ν.1 ho).1;simp only[φ,ag]at hi;obtain rfl:i=l.length:=by omega
    rw[aq (ζ _)]at ho;simp only[Nat.sub_self,υ,τ]at ho;subst ho;simp only[af (ζ _),ai (show ¬l.length+1<=l.length from by omega)];rw[f1];exact hT
end
def Bz (n:Nat):Rs:=⟨n,[],[],[],[],0,false,.slice none 0 0,.slice none 0 0,.slice none 0 0,.slice none 0 0⟩
section
variable {B:Nat}{C:Dc}{M:Mc}{U U':Nat->Prop}{S S':Ds}{R:Rs}{w w1 w':World}{y:Int}{l:List Bl}
theorem NX (B rd n:Nat)(w:World)(hB:B<=w.heap.size):jW B (w.alloc (.cells #[.pointer (some ⟨rd,0,none⟩),.int .i64 n,.slice none 0 0,.slice none 0 0,.slice none 0 0,.slice none 0 0,.int .i64 0,.bool false] 64)) w.heap.size rd (Bz n):=by
 have q:=θ w #[.pointer (some ⟨rd,0,none⟩),.int .i64 n,.slice none 0 0,.slice none 0 0,.slice none 0 0,.slice none 0 0,.int .i64 0,.bool false] 64;exact⟨q 0,q 1,q 2,q 3,q 4,q 5,q 6,q 7,bB _ _ _,λo=>aG _ _ w.heap.size o rfl,Ξ _ _ _ _,Ξ _ _ _ _,Ξ _ _ _ _,Ξ _ _ _ _,λj E=>(by cases E),hB⟩
theorem RP.new (h:AD C M U S w)(mM:C.N0<=w.heap.size/\B<=w.heap.size)(n:Nat):RP B C M w.heap.size U S (Bz n) (w.alloc (.cells #[.pointer (some ⟨M.rd,0,none⟩),.int .i64 n,.slice none 0 0,.slice none 0 0,.slice none 0 0,.slice none 0 0,.int .i64 0,.bool false] 64)):=by
 have J:=χ (γ w.heap.size w) (.cells #[.pointer (some ⟨M.rd,0,none⟩),.int .i64 n,.slice none 0 0,.slice none 0 0,.slice none 0 0,.slice none 0 0,.int .i64 0,.bool false] 64);exact⟨h.b J,NX B M.rd n w mM.2,λj E=>⟨λh=>(by cases h),λh=>(by cases h)⟩,λg c i h' n' d _ _ _ hn=>(by cases hn),σ mM.1 J.size,σ mM.2 J.size⟩
theorem fX.n_ {n:Nat}{U':Nat->Prop}(J:Below w.heap.size w w1)(h:fX C.N0 w.heap.size (Bz n) R U U' w1 w'):bD R6 C.N0 w w'/\(∀j,U' j->U j\/w.heap.size<=j):=by
 refine⟨⟨h.k.os.trans J.os,h.k.tape.trans J.tape,h.k.output.trans J.output,σ J.size h.k.size,λk D=>?_⟩,λj E=>?_⟩
 ·by_cases hs:C.N0<=k/\∃κ,Tag w1 k κ/\some κ∈R6
  ·obtain⟨G,κ,⟨c,f,e⟩,h3⟩:=hs;rw[J.block k D]at e;exact δ ⟨G,_,e,h3⟩
  ·refine ε ((h.k.blk k (ι D J.size) (λhx=>?_)).trans (J.block k D));rcases hx with(hx|hx|hx|hx|hx)|hx
   ·omega
   ·cases hx
   ·cases hx
   ·cases hx
   ·cases hx
   ·exact hs hx
 ·rcases h.u j E with e|e
  ·exact ε e
  ·exact δ (σ J.size e)
theorem u_ (h:AD C M U S w)(mM:C.N0<=w.heap.size/\B<=w.heap.size){n:Nat}(hn:1<=n/\n<=16)(hF:FA C S)(hQ:S.ab5<=900)(oH:∀x,x<C.k->(C.fr x).length=C.k/\∀i∈C.fr x,i<C.k)(hT:yP C y S l S')(hl:l.length=n):
  Calls prog 21 #[.pointer (some ⟨M.rd,0,none⟩),.int .i64 y,.int .i64 n] w λev w'=>∃vR U',ev=.returned (.tuple #[.pointer (some ⟨w.heap.size,0,none⟩),.int .i64 0])/\RP B C M w.heap.size U' S' {Bz n with R:=l,vR:=vR} w'/\bD R6 C.N0 w w'/\(∀j,U' j->U j\/w.heap.size<=j)/\∀j,OB vR j->w.heap.size<=j:=by
 obtain⟨f,f0,f1,f2,f3⟩:=mH hT hF;have H1:=RP.new (B:=B) h mM n;have F1:=χ (γ w.heap.size w) (.cells #[.pointer (some ⟨M.rd,0,none⟩),.int .i64 n,.slice none 0 0,.slice none 0 0,.slice none 0 0,.slice none 0 0,.int .i64 0,.bool false] 64);rw[<- f0]at H1;have dD:=I H1;have cZ:=I F1;have wq:=I f2;have ML:=I f3;have HE:=I f1;have HL:=I hl;have Gk:decide ((n:Int)<1)=false:=dE (by omega);have Lm:decide ((n:Int)>16)=false:=dE (by omega);have Ox:¬(n:Int)<1:=by omega
 have hd4:¬(16:Int)<n:=by omega
 clear h f0 f1 f2 f3 hT hF H1 F1 hl;go_enter func21,ntmps21;go_upto_region 4 with(fail);generalize w.alloc (.cells #[.pointer (some ⟨M.rd,0,none⟩),.int .i64 n,.slice none 0 0,.slice none 0 0,.slice none 0 0,.slice none 0 0,.int .i64 0,.bool false] 64)=W1 at*;go_wp2_with fail;go_loopw [9] (λs wr=>∃(j:Nat) (Uj:Nat->Prop) (v:Value),s=.int .i64 j/\j<=n/\Hid (RP B C M w.heap.size Uj (f j) {Bz n with R:=l.take j,vR:=v} wr)/\Hid (fX C.N0 w.heap.size (Bz n) {Bz n with R:=l.take j,vR:=v} U Uj W1 wr)) (λs _=>n-(intOf s).toNat)
 case atStart=>exact⟨0,U,.slice none 0 0,rfl,Γ _,Z dD,fX.refl _ _ _ _ _⟩
 case round =>
  obtain⟨j,Uj,v,rfl,E,HH,HF⟩:=hrel;have Cn:(0:Int)<=j:=by omega
  have hwj:IntKind.i64.wrap ((j:Int)+1)=(j:Int)+1:=aB _ (by omega);by_cases pS:j<n
  ·have qm:(j:Int)<n:=by omega
   obtain⟨⟨oN,oA⟩,jl⟩:∃o,l[j]?=some o:=⟨_,ξ (by rw[Z HL];exact pS)⟩;have vV:=(Z ML) j _ jl;obtain⟨a1,a2,a3⟩:=(Z wq) j (by have:=Z HL;omega);obtain⟨b1,b2,b3⟩:=(Z wq) (j+1) (by have:=Z HL;omega);have gL:Hid (Calls prog 31 #[.pointer (some ⟨M.rd,0,none⟩),.int .i64 0,.int .i64 y,.bool true] wr λev w'=>ev=.returned (.tuple #[.agg #[.int .i64 oN,.int .i64 oA],.int .i64 0])/\AD C M Uj (f (j+1)) w'/\bD R6 C.N0 wr w'):=iW (Z HH).k (Z HH).lo.1 a1 b1 (by omega) oH vV;have sU:=I jl;clear jl vV a1 a2 a3 b1 b2 b3;go_wp2_with fail;refine(Z gL).mono ?_;rintro ev w3⟨rfl,K3,C3⟩;obtain⟨H3,F3⟩:=(Z HH).dep K3 C3 (λ_ h=>ε h);have F5:=χ (γ w3.heap.size w3) (cB oN oA);have q':=θ w3 #[.int .i64 oN,.int .i64 oA] 34;have x0:=q' 0;have x1:=q' 1;simp only[Δ,υ,ω]at x0 x1;have H5:=H3.b F5;have iY:=I (((Z HF).trans F3).trans (fX.below F5));have c2:=H5.m.c2;have f2:=H5.m.fz 2;have r2:=H5.m.r;simp only at c2 r2;obtain⟨pT,cT,pM⟩:=aX r2;have GF:(l.take j).length=j:=by rw[cI];have:=Z HL;omega
   rw[GF]at pM;have qx:=I pM;rw[pM]at c2;rw[pM,GF]at r2;have HLJ:=I GF;have T5:=H5.m.tg;have Tf:=H5.lo.2;have gW:=I H5;clear gL K3 C3 H3 F3 F5 q' H5 pM GF;go_upto_region 8 with(fail);generalize w3.alloc (cB oN oA)=W5 at*;generalize w3.heap.size=b8 at*;go_upto_region 14 with(fail);have BA:Below W5.heap.size W5 (W5.alloc (cB oN oA)).drew:=(χ (γ _ _) _).drew;have iE:=aN r2 BA;have ir:=T5.b BA;have hNb:B<=(W5.alloc (cB oN oA)).drew.heap.size:=σ Tf BA.size;have j9:=(BA.cell (p:=⟨w.heap.size,2,none⟩) T5.lt).trans c2;have j_:=(BA.frozen (p:=⟨w.heap.size,2,none⟩) T5.lt).trans f2;go_region_law (refine lT rfl (.tmp 59) (.tmp 61) rfl B (.slice pT j cT) j (flat (l.take j)) (by simp[Act.eval]) iE (by simp[Act.eval]) (by omega) hNb ?_;intro g4 c4 w6 o6 q6 hg4 kE;have e6:=q6.block w.heap.size ir.lt (d_ iE ir (by decide));have ID:w6.cell? ⟨w.heap.size,2,none⟩=some (.slice pT j cT):=(η (a:=⟨w.heap.size,2,none⟩) e6).trans j9;have Di:w6.frozen? ⟨w.heap.size,2,none⟩=false:=(π (a:=⟨w.heap.size,2,none⟩) e6).trans j_);all_goals
    have yR:(W5.alloc (cB oN oA)).drew.grownBy w6 v.ownBlock:=by rw[Z qx];exact q6
    have qs:v.ownBlock=some g4\/g4=(W5.alloc (cB oN oA)).drew.heap.size:=by rw[Z qx];exact hg4
    obtain⟨H7,F7⟩:=(Z gW).J1 BA (Z HLJ) o6 yR qs;simp only at H7 F7;rw[<- pL (Z sU)]at H7 F7;have zC:=I H7;have zB:=I ((Z iY).trans F7);clear yR qs H7 F7 o6 q6 hg4 kE e6 j9 j_ iE BA ir hNb x0 x1 gW iY c2 f2 r2 T5 qx HH HF;go_wp2_with fail;go_roundw;case rel=>exact⟨j+1,Uj,_,by go_num,by omega,zC,zB⟩
    case measure=>simp[intOf];omega
  ·obtain rfl:j=n:=by omega
   have kn:¬(j:Int)<j:=by omega
   have hH:=Z HH;have uX:l.take j=l:=by rw[<- Z HL,b_]
   rw[uX]at hH;rw[<- Z HL,Z HE,Z HL]at hH;have hFF:=(Z HF);obtain⟨hC,hU⟩:=hFF.n_ (Z cZ);have hv:∀i,OB v i->w.heap.size<=i:=λi hi=>by
    rcases hFF.r i hi with e|e
    ·cases e
    ·exact σ (Z cZ).size e
   have HHH:=I hH;have HCC:=I hC;have HUU:=I hU;have aa8:=I hv;clear hH uX hFF hC hU hv HH HF dD cZ wq ML HE HL;go_wp2_with fail;go_ret2;exact⟨rfl,v,Uj,Z HHH,Z HCC,Z HUU,Z aa8⟩
end
end Pl
namespace Rd
open Fr Bd Zn Dz Sb Mg
end Rd
namespace Pl
open Fr Bd Zn Dz Sb Mg Rd
structure LF (ab4:Nat->Prop)(w w':World):Prop where
 o:∀j,ab4 j->w'.heap[j]?=w.heap[j]?
 s:eh [51,86] w w'
 z:w.heap.size<=w'.heap.size
theorem LF.below {ab4:Nat->Prop}{w w':World}(ho:∀j,ab4 j->j<w.heap.size)(J:Below w.heap.size w w'):LF ab4 w w':=⟨λj E=>J.block j (ho j E),eo J,J.size⟩
theorem PF.lf {ab7 ab4:Nat->Prop}{P P':Ps}{w w':World}(h:PF ab7 P P' w w')(ho:∀j,ab4 j->ab7 j):LF ab4 w w':=⟨λj E=>h.v j (ho j E),λb t hm ht=>h.s b t ((by decide:∀t∈([51,86]:List TypeId),t∈Ug) t hm) ht,h.z⟩
section
variable {B:Nat}{C:Dc}{M:Mc}{Y F ym aK:Nat}{U U' ab4 O':Nat->Prop}{X:Nat->Option Obj}{S S0:Ds}{P:Ps}{R R':Rs}{w w':World}
theorem fX.lf (h:RP B C M aK U S R w)(hf:fX C.N0 aK R R' U U' w w')(ho:∀j,ab4 j->BO U R w j):LF ab4 w w':=by
 refine⟨λj E=>(h.row hf (ho j E)).1,λb t hm ht=>hf.k.blk b ht.lt (λJ=>?_),hf.k.size⟩;rcases J with J|⟨_,κ,O,h3⟩
 ·obtain⟨t',h4,h5,_⟩:=h.m.kinds J;refine h4.ne ht (λe=>?_) rfl;subst e;rcases h5 with rfl|rfl|rfl|rfl<;>simp at hm
 ·refine O.ne ht (λe=>?_) rfl;subst e;simp only[ae,aR,dg]at hm;rcases hm with rfl|rfl<;>simp at h3
theorem RP.iV (h:RP B C M aK U S R w)(D:Kp ab4 w w')(ht:∀j,ab4 j->BO U R w j):RP B C M aK U S R w':=by
 obtain⟨nb,hz⟩:=h.k.rz;have hs:∀ts:List TypeId,34∉ts->eh ts w w':=λts hn b t hm hg=>D.blk b hg.lt (λJ=>hg.ne (ht b J).1 (λe=>hn (e▸hm)) rfl);refine⟨h.k.iV D (λb J t hm hg=>hg.ne (ht b J).1 (by rintro rfl;simp at hm) rfl) (λb J hu=>(ht b J).2 (ε hu)) (h.n.of hz (λb J=>δ ⟨34,(ht b J).1,by decide⟩)) (λ_ h=>h) (λ_ h=>ε h),h.m.keep (λb J=>D.blk b (h.m.lt J).1 (λho=>?_)),h.d,h.n.keep hz (hs _ (by decide)) (λ_ h=>ε h),σ h.lo.1 D.size,σ h.lo.2 D.size⟩;obtain⟨t',h4,h5,h6,h7⟩:=h.m.kinds J;by_cases l_:t'=34
 ·exact(ht b ho).2 (δ (h7 l_))
 ·exact h4.ne (ht b ho).1 l_ rfl
theorem PQ.bo (h:PQ B C M Y F ym aK U ab4 X S S0 P R w):∀j,ab4 j->BO U R w j:=λj E=>⟨h.p.iH j (δ E),h.o j E⟩
theorem PQ.iV (h:PQ B C M Y F ym aK U ab4 X S S0 P R w)(D:Kp ab4 w w')(hO:∀j,O' j->Tag w' j 34/\(ab4 j\/w.heap.size<=j)):PQ B C M Y F ym aK U O' X S S0 P R w':=by
 obtain⟨nb,hz⟩:=h.r.k.rz;have Iz:=h.bo;have hr:=h.r.iV D Iz;have hs:∀ts:List TypeId,34∉ts->eh ts w w':=λts hn b t hm hg=>D.blk b hg.lt (λJ=>hg.ne (Iz b J).1 (λe=>hn (e▸hm)) rfl);have hlt:∀j,(U j\/OB R.vR j\/OB R.vT j)->j<w.heap.size:=λj E=>(h.p.iH j (ε E)).lt;refine⟨h.p.others (D.mono λb _ J=>δ J) (λj E=>?_),hr,λj E hx=>?_,h.n1.keep h.p.k.dz (hs _ (by decide)) (λ_ h=>ε h),h.n3.keep hz (hs _ (by decide)) (λ_ h=>ε h),h.d3⟩
 ·rcases E with E|E
  ·have ht:=h.p.iH j (ε E);exact⟨ht.blk (D.blk j ht.lt (λho=>h.o j ho E)),ε (ε E)⟩
  ·exact⟨(hO j E).1,(hO j E).2.imp (λe=>δ e) id⟩
 ·rcases(hO j E).2 with e|e
  ·exact h.o j e hx
  ·have:=hlt j hx;omega
theorem PQ.lt (h:PQ B C M Y F ym aK U ab4 X S S0 P R w):∀j,ab4 j->j<w.heap.size:=λj E=>(h.bo j E).1.lt
theorem PQ.low (h:PQ B C M Y F ym aK U ab4 X S S0 P R w):Below C.w0.heap.size C.w0 w:=DQ.b0 h.p.k
end
section
variable {C:Dc}{U:Nat->Prop}{X:Nat->Option Obj}{S S':Ds}{w:World}{x y:Int}{u:Bool}{r:Option Nat}{o p:Bl}
theorem iX (h:DK C U X S w)(ho:di C S o):W2 o.1 o.2:=by
 obtain⟨ly,bs,q,f,rb,hP,O,h3⟩:=DQ.ex h;exact iM.w2 hP.c ho.1
theorem mL (h:FA C S)(hT:mV C S x y u none o S'):¬di C S o/\di C S' o/\∀p,di C S p->di C S' p:=by
 have f_:=h.mm;have A5:=h.so;have how:=h.ow;have hnd:=h.tk;cases hT with
 |lift i a b a' b' dC xs o hx dR hl K =>
  have hi:i<S.ws.length:=(ν.1 dR).1;obtain⟨_,s2⟩:=hl.lies dR;have ha:a'∈ez S.ws S.pl:=s2 a' ((kF hi a' b' dC).mem_iff.2 (by simp));have hoa:o∈S.ct a':=by rw[K];simp
  have qH:=h.cn a' ha;rw[K]at qH;have Eu:o∉xs:=λhm=>(aF.1 qH).2.2 o hm o (by simp) rfl;refine⟨λhi=>hi.2 a' ha hoa,⟨hnd a' ha o hoa,λt ht=>?_⟩,λp hp=>⟨hp.1,λt ht=>?_⟩⟩
  ·by_cases e:t=a'
   ·subst e;simp only[cH];exact Eu
   ·simp only[bH e];intro hm;exact e (h.un t (s2 t ht) a' ha o hm hoa)
  ·by_cases e:t=a'
   ·subst e;simp only[cH];exact λhm=>hp.2 t ha (by rw[K];simp[hm])
   ·simp only[bH e];exact hp.2 t (s2 t ht)
 |old i a b a' b' dC x' j s mN dR hl K hy D h3 h4 =>
  obtain⟨_,s2⟩:=hl.lies dR;obtain⟨E,abe,jR⟩:=iP h3;rw[getD_at h4]at abe jR;have hsm:=(h.ok s (aH h4)).2.2.1;obtain⟨f1,f2,f3⟩:=ky hsm h.ml jR;have gY:¬iM C.m C.sz S.Q (s.V:Int) (s.at_*64+ff s.bm*C.sz):=by
   rintro⟨j',i',s',es,hi,Gz,hn,ha⟩;have su:=jA f_.1 f_.2.2 hi;have hm2:=jA f_.1 f_.2.2 f1;simp only at hn ha;have e2:s.at_=s'.at_:=by omega
   have e3:j=j':=lO A5 h4 es (by omega) e2;subst e3;rw[h4]at es;cases es
   have e4:(ff s.bm:Int)*C.sz=i'*C.sz:=by omega
   have e5:(ff s.bm:Int)=i':=Int.eq_of_mul_eq_mul_right (by omega) e4;have e6:ff s.bm=i':=by omega
   rw[<- e6,f2]at Gz;cases Gz
  refine⟨λhi=>gY hi.1,⟨⟨j,ff s.bm,_,aP E,f1,by simp[Nat.testBit_or],rfl,rfl⟩,λt ht hm=>gY (hnd t (s2 t ht) _ hm)⟩,λp hp=>⟨hp.1.or h4 _,λt ht=>hp.2 t (s2 t ht)⟩⟩
 |new i a b a' b' dC x' n q mN dR hl K hy D h3 h4 h5 h7 =>
  obtain⟨_,s2⟩:=hl.lies dR;have kV:fA 0 C.mn u (S.V n)=2:=by
   have:=List.find?_some h4;simpa using this
  have eH:=h.nok n h5;have gY:¬iM C.m C.sz S.Q (n:Int) (mO 0 (S.V n)*64):=by
   rintro⟨j',i',s',es,hi,Gz,hn,ha⟩;have su:=jA f_.1 f_.2.2 hi;simp only at hn ha;have hs':=aH es;have:=how.fresh eH kV s' hs' (by omega);omega
  refine⟨λhi=>gY hi.1,⟨⟨q,0,⟨n,mO 0 (S.V n),1⟩,by rw[cF _ h7.1,ai (by omega),af rfl],by have:=h.m1;omega,(show(1:Nat).testBit 0=true by decide),rfl,by simp⟩,λt ht hm=>gY (hnd t (s2 t ht) _ hm)⟩,λp hp=>⟨hp.1.ins h7.1 _,λt ht=>hp.2 t (s2 t ht)⟩⟩
theorem BK {n:Nat}(hT:mV C S x y u (some n) o S')(hp:di C S p):di C S' p:=by
 cases hT with
 |bad _=>exact hp
 |no i a b a' b' dC n hx dR hl K hn hr =>
  obtain⟨_,s2⟩:=hl.lies dR;exact⟨hp.1,λt ht=>hp.2 t (s2 t ht)⟩
theorem N2 (hF:FA C S)(hG:yj C S x o r S')(hp:di C S p)(hne:p≠o):di C S' p:=by
 cases hG with
 |bad _=>exact hp
 |lV _ _ _ _=>exact hp
 |yes i a b kX dC qa hx dR ht hn hg =>
  obtain⟨_,_,g3,_⟩:=hg.lies hF.V dR;refine⟨hp.1,λt ht' hm=>?_⟩;obtain⟨u',hu,sB⟩:=g3 p hne ⟨t,ht',hm⟩;exact hp.2 u' hu sB
theorem DO (hx:0<=x/\x<S.ws.length)(ho:di C S o)(hG:yj C S x o r S'):r=none:=by
 cases hG with
 |bad h=>omega
 |lV i _ _ hn=>exact absurd ⟨ho.1,ho.2⟩ hn
 |yes _ _ _ _ _ _ _ _ _ _ _=>rfl
end
structure PJ (C:Dc)(S:Ds)(P:Ps)(R:Rs)(n:Nat):Prop where
 e1:R.most=P.most
 e2:R.R=P.R
 e3:R.T=P.T
 e4:R.L=P.L
 e5:R.ab6=P.ab6
 e6:R.last=P.tk
 e7:R.cl=false
 most:P.most<=16
 rl:P.R.length<=P.most
 ab5:S.ab5<=n
 q:P.q<=3*n
 tk:P.tk<=n
 ln:P.L.length<=8
 lt:∀t∈P.L,t<=P.tk/\t∉P.ab6.map (·.1)
 yt:∀t∈P.ab6.map (·.1),t<=P.tk
 DR:P.L.Nodup
 FX:(P.ab6.map (·.1)).Nodup
 V:(P.R++(P.T++P.ab6.map (·.2))).Nodup
 out:∀o∈P.R++(P.T++P.ab6.map (·.2)),di C S o
 tl:P.T.length<=n
 yl:P.ab6.length<=n
section
variable {C:Dc}{S S':Ds}{P:Ps}{R:Rs}{n:Nat}{o:Bl}
theorem PJ.pi (h:PJ C S P R n)(hn:n<=200):PI S P:=⟨h.most,by have:=h.q;omega,by have:=h.ab5;omega,by have:=h.tk;omega,h.ln,h.lt,h.yt⟩
theorem PJ.dep (h:PJ C S P R n)(hQ:S'.ab5<=n+1)(ho:∀p,di C S p->di C S' p):PJ C S' P R (n+1):=
 ⟨h.e1,h.e2,h.e3,h.e4,h.e5,h.e6,h.e7,h.most,h.rl,hQ,by have:=h.q;omega,by have:=h.tk;omega,h.ln,h.lt,h.yt,h.DR,h.FX,h.V,λp hp=>ho p (h.out p hp),by have:=h.tl;omega,by have:=h.yl;omega⟩
theorem PJ.next (h:PJ C S P R n):PJ C S P R (n+1):=h.dep (by have:=h.ab5;omega) (λ_ h=>h)
theorem PJ.wait {ic kj:Value}(h:PJ C S P R n)(hl:P.L.length<8):PJ C S {P with L:=P.L++[P.tk+1],tk:=P.tk+1,vl:=ic} {R with L:=R.L++[R.last+1],last:=R.last+1,vL:=kj} (n+1):=by
 refine⟨h.e1,h.e2,h.e3,by simp only;rw[h.e4,h.e6],h.e5,by simp only;rw[h.e6],h.e7,h.most,h.rl,by have:=h.ab5;omega,by have:=h.q;simp only;omega,by have:=h.tk;simp only;omega,by simp only[φ,ag];omega,λt ht=>?_,λt ht=>by have:=h.yt t ht;simp only;omega,?_,h.FX,h.V,h.out,by have:=h.tl;simp only;omega,by have:=h.yl;simp only;omega⟩
 ·simp only[aC,aw]at ht ⊢;rcases ht with ht|rfl
  ·obtain⟨G,O⟩:=h.lt t ht;exact⟨by omega,O⟩
  ·exact⟨ζ _,λhm=>by have:=h.yt _ hm;omega⟩
 ·refine aF.2 ⟨h.DR,by simp,λa ha b J e=>?_⟩;simp only[aw]at J;have:=(h.lt a ha).1;omega
theorem PJ.took {ie:Value}(h:PJ C S P R n)(hQ:S'.ab5<=n+1)(hno:¬di C S o)(hio:di C S' o)(ho:∀p,di C S p->di C S' p):PJ C S' {P with T:=P.T++[o],q:=P.q+1} {R with T:=R.T++[o],vT:=ie} (n+1):=by
 refine⟨h.e1,h.e2,by simp only;rw[h.e3],h.e4,h.e5,h.e6,h.e7,h.most,h.rl,hQ,by have:=h.q;simp only;omega,by have:=h.tk;simp only;omega,h.ln,h.lt,h.yt,h.DR,h.FX,?_,λp hp=>?_,by have:=h.tl;simp only[φ,ag];omega,by have:=h.yl;simp only;omega⟩
 ·have hp:(P.R++((P.T++[o])++P.ab6.map (·.2))).Perm ((P.R++(P.T++P.ab6.map (·.2)))++[o]):=by
   simp only[aJ];exact dB _ (dB _ dU)
  refine hp.nodup_iff.2 (aF.2 ⟨h.V,by simp,λa ha b J e=>?_⟩);simp only[aw]at J;exact hno (h.out o (by rw[<- J,<- e];exact ha))
 ·have:p∈P.R++(P.T++P.ab6.map (·.2))\/p=o:=by
   simp only[aC,aw]at hp ⊢;rcases hp with hp|((hp|hp)|hp)
   ·exact ε (ε hp)
   ·exact ε (δ (ε hp))
   ·exact δ hp
   ·exact ε (δ (δ hp))
  rcases this with e|rfl
  ·exact ho p (h.out p e)
  ·exact hio
theorem PJ.spare {ab9:List Bl}{rR DT ie:Value}(h:PJ C S P R n)(hQ:S'.ab5<=n+1)(hR:P.R=ab9++[o])(ho:∀p,di C S p->di C S' p):PJ C S' {P with R:=ab9,vr:=rR,T:=P.T++[o],q:=P.q+1} {R with R:=ab9,vR:=DT,T:=R.T++[o],vT:=ie} (n+1):=by
 have hp:(ab9++((P.T++[o])++P.ab6.map (·.2))).Perm (P.R++(P.T++P.ab6.map (·.2))):=by
  rw[hR];simp only[aJ];refine dB _ ?_;rw[<- aJ,<- aJ];exact List.Perm.append_right _ dU
 refine⟨h.e1,rfl,by simp only;rw[h.e3],h.e4,h.e5,h.e6,h.e7,h.most,?_,hQ,by have:=h.q;simp only;omega,by have:=h.tk;simp only;omega,h.ln,h.lt,h.yt,h.DR,h.FX,hp.nodup_iff.2 h.V,λp sx=>ho p (h.out p (hp.mem_iff.1 sx)),by have:=h.tl;simp only[φ,ag];omega,by have:=h.yl;simp only;omega⟩;have:=h.rl;rw[hR]at this;simp only[φ,ag]at this;simp only;omega
end
section
variable {B:Nat}{C:Dc}{M:Mc}{aK N:Nat}{U:Nat->Prop}{S S':Ds}{R:Rs}{w w1 w':World}{x y:Int}{o:Bl}
theorem FY (h:RP B C M aK U S R w)(K:R.cl=false)(hx:0<=x/\x<S.ws.length)(hy:0<=y/\y<C.k)(hL:R.L=[])(hT:R.T.length<1000000)(hF:FA C S)(hF':FA C S')(hQ:S.ab5<=1000)(oH:∀x,x<C.k->(C.fr x).length=C.k/\∀i∈C.fr x,i<C.k)(vV:mV C S x y false none o S'):
  Calls prog 23 #[.pointer (some ⟨aK,0,none⟩),.int .i64 x,.int .i64 y] w λev w'=>ev=.returned (.tuple #[bz o.1 o.2,.int .i64 0])/\∃ie,RP B C M aK U S' {R with T:=R.T++[o],vT:=ie} w'/\fX C.N0 aK R {R with T:=R.T++[o],vT:=ie} U U w w':=by
 obtain⟨oN,oA⟩:=o;have F1:=χ (γ w.heap.size w) (cB 0 0);have R1:=cQ w;have H1:=h.b F1;have wP:=h.fresh R1.tg (ζ _);have c7:=H1.m.c7;rw[K]at c7;have c0:=H1.m.c0;have c4:=H1.m.c4;obtain⟨g0,g1⟩:=H1.way;have HW:=I (H1.worker x);have qL:=I (H1.node y);rw[aM hx]at HW;rw[aM hy]at qL;obtain⟨pl,cl,hv⟩:=aX H1.m.l;rw[hv,hL]at c4;simp only[aA]at c4;have gL:Hid (∀W,RP B C M aK U S R W->Calls prog 31 #[.pointer (some ⟨M.rd,0,none⟩),.int .i64 x,.int .i64 y,.bool false] W λev w'=>ev=.returned (.tuple #[.agg #[.int .i64 oN,.int .i64 oA],.int .i64 0])/\AD C M U S' w'/\bD R6 C.N0 W w'):=λW hW=>iW hW.k hW.lo.1 hF hF' hQ oH vV;clear vV hF hF';have cZ:=I (fX.below (N:=C.N0) (aK:=aK) (R:=R) (U:=U) F1);have fk:=I R1;have dD:=I H1;have sw:=I wP;clear h F1 R1 H1 wP K hv hx hy hL;unfold bz;go_enter func23,ntmps23;go_upto_region 1 with(fail);generalize w.alloc (cB 0 0)=W at*;go_wp2_with fail;refine(Z HW).mono ?_;rintro ev w1⟨rfl,rfl⟩;go_wp2_with fail;refine(Z qL).mono ?_;rintro ev w2⟨rfl,b2⟩;have H2:=(Z dD).b b2;have e4:=(b2.cell (p:=⟨aK,4,none⟩) (Z dD).m.tg.lt).trans c4;have e0:=(b2.cell (p:=⟨aK,0,none⟩) (Z dD).m.tg.lt).trans c0;have jS:=I ((Z fk).b b2);have kg:=I ((Z sw).b b2);have eA:=I ((Z cZ).trans (fX.below b2));have iu:=I H2;have za:=I ((Z gL) w2 H2);clear HW qL dD fk sw cZ gL H2 c4 c0 c7 g0 g1 b2;go_wp2_with fail;refine(Z za).mono ?_;rintro ev w3⟨rfl,K3,C3⟩;obtain⟨H3,F3⟩:=(Z iu).dep K3 C3 (λ_ h=>ε h);obtain⟨e3,Qj⟩:=(Z iu).row F3 (Z kg);have F5:=χ (γ w3.heap.size w3) (cB oN oA);have q':=θ w3 #[.int .i64 oN,.int .i64 oA] 34;have x0:=q' 0;have x1:=q' 1;simp only[Δ,υ,ω]at x0 x1;have H5:=H3.b F5;have mU:=I (((Z jS).blk e3).b F5);have uI:=I (Qj.b F5);have mJ:=I (H3.fresh (bB w3 #[.int .i64 oN,.int .i64 oA] 34) (ζ _));have iY:=I (((Z eA).trans F3).trans (fX.below F5));have c3:=H5.m.c3;have f3:=H5.m.fz 3;have r3:=H5.m.t;obtain⟨pT,cT,pM⟩:=aX r3;have qx:=I pM;rw[pM]at c3 r3;have gW:=I H5;generalize Tl:R.T.length=nT at*;clear za K3 C3 H3 F3 e3 Qj F5 q' H5 pM jS kg eA iu e0 e4;go_upto_region 8 with(fail);generalize w3.alloc (cB oN oA)=W5 at*;generalize w3.heap.size=b8 at*;go_upto_region 14 with(fail);have T5:=(Z gW).m.tg;have BA:Below W5.heap.size W5 (W5.alloc (cB oN oA)).drew:=(χ (γ _ _) _).drew;have iE:=aN r3 BA;have ir:=T5.b BA;have hNb:B<=(W5.alloc (cB oN oA)).drew.heap.size:=σ (Z gW).lo.2 BA.size;have j9:=(BA.cell (p:=⟨aK,3,none⟩) T5.lt).trans c3;have j_:=(BA.frozen (p:=⟨aK,3,none⟩) T5.lt).trans f3;go_region_law (refine lT rfl (.tmp 91) (.tmp 93) rfl B (.slice pT nT cT) nT (flat R.T) (by simp[Act.eval]) iE (by simp[Act.eval]) (by omega) hNb ?_;intro g4 c4 w6 o6 q6 hg4 kE;have e6:=q6.block aK ir.lt (d_ iE ir (by decide));have ID:w6.cell? ⟨aK,3,none⟩=some (.slice pT nT cT):=(η (a:=⟨aK,3,none⟩) e6).trans j9;have Di:w6.frozen? ⟨aK,3,none⟩=false:=(π (a:=⟨aK,3,none⟩) e6).trans j_);all_goals
  have yR:(W5.alloc (cB oN oA)).drew.grownBy w6 R.vT.ownBlock:=by rw[Z qx];exact q6
  have qs:R.vT.ownBlock=some g4\/g4=(W5.alloc (cB oN oA)).drew.heap.size:=by rw[Z qx];exact hg4
  obtain⟨H7,F7⟩:=(Z gW).Qe BA Tl o6 yR qs;obtain⟨e8,BL⟩:=(Z gW).row F7 (Z mJ);obtain⟨e9,Qk⟩:=(Z gW).row F7 (Z uI);have z0:=(η (a:=⟨b8,0,none⟩) e8).trans x0;have z1:=(η (a:=⟨b8,1,none⟩) e8).trans x1;have nH:=I ((Z mU).blk e9);have oK:=I Qk;have zC:=I H7;have zB:=I ((Z iY).trans F7);clear yR qs H7 F7 e8 BL e9 Qk o6 q6 hg4 kE e6 j9 j_ iE BA ir hNb x0 x1 gW iY mU uI mJ c3 f3 r3 T5 qx;go_upto_region 16 with(fail);generalize w6.setCell ⟨aK,3,none⟩ (.slice (some ⟨g4,0,none⟩) (nT+1) c4)=W7 at*;obtain⟨r0,r1,bQ,rt⟩:=Z nH;have f0:=bQ 0;have f1:=bQ 1;obtain⟨t0,t1⟩:=aW r0 r1 (.int .i64 oN) (.int .i64 oA);clear bQ rt;go_wp2;refine Θ (v:=.tuple #[.agg #[.int .i64 oN,.int .i64 oA],.int .i64 0]) (by simp[results,results23,go_sem,t0,t1];try rfl) rfl ?_;exact⟨rfl,_,((Z zC).box (Z oK) _ _).box ((Z oK).set _ _) _ _,((Z zB).box (ζ _) _ _).box (ζ _) _ _⟩
end
section
variable {B:Nat}{C:Dc}{M:Mc}{aK N:Nat}{U:Nat->Prop}{S S':Ds}{R:Rs}{w w1 w':World}{x y:Int}
theorem BM (h:RP B C M aK U S R w)(K:R.cl=false)(hx:0<=x/\x<S.ws.length)(hy:0<=y/\y<C.k)(hL:R.L=[])(hF:FA C S)(hF':FA C S')(hQ:S.ab5<=1000)(oH:∀x,x<C.k->(C.fr x).length=C.k/\∀i∈C.fr x,i<C.k){n:Nat}(vV:mV C S x y false (some n) (0,0) S')(hR:R.R=[])(kV:R.last<1000000):
  Calls prog 23 #[.pointer (some ⟨aK,0,none⟩),.int .i64 x,.int .i64 y] w λev w'=>ev=.returned (.tuple #[bz 0 0,.int .i64 8])/\∃kj,RP B C M aK U S' {R with L:=R.L++[R.last+1],last:=R.last+1,vL:=kj} w'/\fX C.N0 aK R {R with L:=R.L++[R.last+1],last:=R.last+1,vL:=kj} U U w w':=by
 have F1:=χ (γ w.heap.size w) (cB 0 0);have R1:=cQ w;have H1:=h.b F1;have wP:=h.fresh R1.tg (ζ _);have c7:=H1.m.c7;rw[K]at c7;have c0:=H1.m.c0;have c4:=H1.m.c4;obtain⟨g0,g1⟩:=H1.way;have HW:=I (H1.worker x);have qL:=I (H1.node y);rw[aM hx]at HW;rw[aM hy]at qL;obtain⟨pl,cl,hv⟩:=aX H1.m.l;rw[hv,hL]at c4;simp only[aA]at c4;have gL:Hid (∀W,RP B C M aK U S R W->Calls prog 31 #[.pointer (some ⟨M.rd,0,none⟩),.int .i64 x,.int .i64 y,.bool false] W λev w'=>ev=.returned (.tuple #[.agg #[.int .i64 0,.int .i64 0],.int .i64 ((n:Int)+1)])/\AD C M U S' w'/\bD R6 C.N0 W w'):=λW hW=>iW hW.k hW.lo.1 hF hF' hQ oH vV;have mW:Hid (∀W,RP B C M aK U S' R W->Calls prog 90 #[.pointer (some ⟨aK,0,none⟩)] W λev w'=>ev=.returned (.int .i64 8)/\∃kj,jW B w' aK M.rd {R with L:=R.L++[R.last+1],last:=R.last+1,vL:=kj}/\Kp (λb=>b=aK\/OB R.vL b) W w'/\∀j,OB kj j->OB R.vL j\/W.heap.size<=j):=λW hW=>yM hW.m hW.lo.2 (by rw[hL];simp) (by omega);clear vV hF hF' kV;have dn1:decide ((n:Int)+1>0)=true:=aM (by omega);have dn2:decide ((0:Int)<(n:Int)+1)=true:=aM (by omega);have cZ:=I (fX.below (N:=C.N0) (aK:=aK) (R:=R) (U:=U) F1);have fk:=I R1;have dD:=I H1;have sw:=I wP;clear h F1 R1 H1 wP K hv hx hy hL;unfold bz;go_enter func23,ntmps23;go_upto_region 1 with(fail);generalize w.alloc (cB 0 0)=W at*;go_wp2_with fail;refine(Z HW).mono ?_;rintro ev w1⟨rfl,rfl⟩;go_wp2_with fail;refine(Z qL).mono ?_;rintro ev w2⟨rfl,b2⟩;have H2:=(Z dD).b b2;have e4:=(b2.cell (p:=⟨aK,4,none⟩) (Z dD).m.tg.lt).trans c4;have e0:=(b2.cell (p:=⟨aK,0,none⟩) (Z dD).m.tg.lt).trans c0;have jS:=I ((Z fk).b b2);have kg:=I ((Z sw).b b2);have eA:=I ((Z cZ).trans (fX.below b2));have iu:=I H2;have za:=I ((Z gL) w2 H2);clear HW qL dD fk sw cZ gL H2 c4 c0 c7 g0 g1 b2;go_wp2_with fail;refine(Z za).mono ?_;rintro ev w3⟨rfl,K3,C3⟩;obtain⟨H3,F3⟩:=(Z iu).dep K3 C3 (λ_ h=>ε h);obtain⟨e3,Qj⟩:=(Z iu).row F3 (Z kg);have F5:=χ (γ w3.heap.size w3) (cB 0 0);have H5:=H3.b F5;have mU:=I (((Z jS).blk e3).b F5);have uI:=I (Qj.b F5);have iY:=I (((Z eA).trans F3).trans (fX.below F5));obtain⟨pR,cR,lU⟩:=aX H5.m.r;have c2:=H5.m.c2;rw[lU,hR]at c2;simp only[aA]at c2;have gW:=I H5;have HW5:=I ((Z mW) _ H5);have rf:IntKind.i64.wrap ((0:Int)-1) = -1:=by decide
 have hp5:=H5.m.tg.lt;clear za K3 C3 H3 F3 e3 Qj F5 H5 jS kg eA iu e0 e4 lU mW;go_upto_region 8 with(fail);generalize w3.alloc (cB 0 0)=W4 at*;generalize w3.heap.size=b8 at*;go_wp2_with fail;refine(Z HW5).mono ?_;rintro ev w4⟨rfl,kj,M4,K4,G4⟩;obtain⟨H4,F4⟩:=(Z gW).own M4 (K4.mono λk _ e=>by
  rcases e with e|e
  ·exact ε e
  ·exact δ (δ (δ (ε e)))) (λ_ h=>ε h) (λ_ h=>ε h) G4 (λ_ h=>ε h)
 obtain⟨XG,XI⟩:=(Z gW).row F4 (Z uI);have RR4:=(Z mU).blk XG;have jI:=I ((Z iY).trans F4);have Fo:=I H4;have Tb:=I XI;obtain⟨r0,r1,bQ,rt⟩:=RR4;have f0:=bQ 0;have f1:=bQ 1;obtain⟨t0,t1⟩:=aW r0 r1 (.int .i64 0) (.int .i64 0);clear bQ HW5 M4 K4 G4 H4 F4 XI XG gW iY mU uI;go_wp2;refine Θ (v:=.tuple #[.agg #[.int .i64 0,.int .i64 0],.int .i64 8]) (by simp[results,results23,go_sem,t0,t1];try rfl) rfl ?_;exact⟨rfl,kj,((Z Fo).box (Z Tb) _ _).box ((Z Tb).set _ _) _ _,((Z jI).box (ζ _) _ _).box (ζ _) _ _⟩
end
section
variable {B:Nat}{C:Dc}{M:Mc}{aK:Nat}{U:Nat->Prop}{S:Ds}{R:Rs}{w w1 w':World}{x y:Int}{o:Bl}
theorem zh (h:RP B C M aK U S R w)(K:R.cl=false)(hx:0<=x/\x<S.ws.length)(hno:o∉R.T)(BP:R.T.length<1000):
  Calls prog 24 #[.pointer (some ⟨aK,0,none⟩),.int .i64 x,.agg #[.int .i64 o.1,.int .i64 o.2]] w λev w'=>ev=.returned (.int .i64 9)/\Below w.heap.size w w':=by
 obtain⟨oN,oA⟩:=o;have F1:=χ (γ w.heap.size w) (cB oN oA);have q':=θ w #[.int .i64 oN,.int .i64 oA] 34;have q0:=q' 0;have q1:=q' 1;simp only[Δ,υ,ω]at q0 q1;have H1:=h.b F1;have Ac:=h.fresh (bB w #[.int .i64 oN,.int .i64 oA] 34) (ζ _);have c7:=H1.m.c7;rw[K]at c7;have c0:=H1.m.c0;have HW:=I (H1.worker x);rw[aM hx]at HW;obtain⟨p,c,wS⟩:=aX H1.m.t;have c3:=H1.m.c3;have r3:=H1.m.t;rw[wS]at c3 r3;have cZ:=I F1;have dD:=I H1;have mJ:=I Ac;have Lc:Hid (∀t,t<R.T.length->∃x y,R.T[t]?=some (x,y)/\(x,y)≠(oN,oA)):=λt ht=>⟨R.T[t].1,R.T[t].2,ξ ht,λe2=>hno (by rw[<- e2];exact aO ht)⟩;have iq:=I r3;clear h F1 q' H1 Ac K wS hx hno r3;generalize hn:R.T.length=n at*;have HN:=I hn;clear hn;go_enter func24,ntmps24;go_upto_region 1 with(fail);generalize w.alloc (cB oN oA)=W at*;go_wp2_with fail;refine(Z HW).mono ?_;rintro ev w1⟨rfl,rfl⟩;have hbl:=(Z mJ).1.lt;go_wp2_with fail;go_loopw [8] (λs8 wr=>∃t:Nat,s8=.int .i64 t/\t<=n/\Hid (Below w1.heap.size w1 wr)) (λs _=>n-(intOf s).toNat)
 case atStart=>exact⟨0,rfl,Γ _,γ _ _⟩
 case round =>
  obtain⟨t,rfl,ht,HB⟩:=hrel;have y0:=((Z HB).cell (p:=⟨w.heap.size,0,none⟩) hbl).trans q0;have y1:=((Z HB).cell (p:=⟨w.heap.size,1,none⟩) hbl).trans q1;have z3:=((Z HB).cell (p:=⟨aK,3,none⟩) (Z dD).m.tg.lt).trans c3;have zq:(0:Int)<=t:=by omega
  have Qg:IntKind.i64.wrap ((t:Int)+1)=(t:Int)+1:=aB _ (by omega);by_cases Jv:t<n
  ·have EM:(t:Int)<n:=by omega
   obtain⟨x',y',jl,hne⟩:=(Z Lc) t Jv;obtain⟨gr,rfl,x0,x1⟩:=jb (aN (Z iq) (Z HB)) (Z HN) jl;clear jl;by_cases hx:x'=oN
   ·subst hx;have hy:¬y'=oA:=λe=>hne (by rw[e]);have hd:decide (y'=oA)=false:=by simpa using hy
    clear hne;go_wp2_with fail;go_quiet (fail);go_wp2_with fail;go_roundw;case rel=>exact⟨t+1,by go_num,by omega,iB (Z HB) _⟩
    case measure=>simp[intOf];omega
   ·have hd:decide (x'=oN)=false:=by simpa using hx
    clear hne;go_wp2_with fail;go_quiet (fail);go_wp2_with fail;go_roundw;case rel=>exact⟨t+1,by go_num,by omega,iB (Z HB) _⟩
    case measure=>simp[intOf];omega
  ·obtain rfl:t=n:=by omega
   have kn:¬(t:Int)<t:=by omega
   go_wp2_with fail;go_quiet (fail);have BB:Below w1.heap.size w1 (wr.drewN nq):=iB (Z HB) nq;have d3:=(BB.cell (p:=⟨aK,3,none⟩) (Z dD).m.tg.lt).trans c3;have NG:=I (bW (Z cZ) BB);clear y0 y1 z3 c3 HB BB;generalize wr.drewN nq=W3 at*;go_wp2;go_ret;exact⟨rfl,Z NG⟩
end
section
variable {B:Nat}{C:Dc}{M:Mc}{aK N:Nat}{U:Nat->Prop}{S:Ds}{R:Rs}{w w1 w':World}{x y:Int}{o:Bl}
theorem sg (h:RP B C M aK U S R w)(K:R.cl=false)(hx:0<=x/\x<S.ws.length){ab9 Mm:List Bl}(hT:R.T=ab9++o::Mm)(hK:o∉ab9)(BP:R.T.length<1000)(hL:R.L=[])(hr:R.R.length<R.most)(hm:R.most<=16):
  Calls prog 24 #[.pointer (some ⟨aK,0,none⟩),.int .i64 x,.agg #[.int .i64 o.1,.int .i64 o.2]] w λev w'=>ev=.returned (.int .i64 0)/\∃ie DT,RP B C M aK U S {R with T:=ab9++Mm,R:=R.R++[o],vT:=ie,vR:=DT} w'/\fX C.N0 aK R {R with T:=ab9++Mm,R:=R.R++[o],vT:=ie,vR:=DT} U U w w':=by
 obtain⟨oN,oA⟩:=o;have F1:=χ (γ w.heap.size w) (cB oN oA);have q':=θ w #[.int .i64 oN,.int .i64 oA] 34;have q0:=q' 0;have q1:=q' 1;simp only[Δ,υ,ω]at q0 q1;have H1:=h.b F1;have Ac:=h.fresh (bB w #[.int .i64 oN,.int .i64 oA] 34) (ζ _);have c7:=H1.m.c7;rw[K]at c7;have c0:=H1.m.c0;have HW:=I (H1.worker x);rw[aM hx]at HW;have hlen:R.T.length=ab9.length+(Mm.length+1):=by rw[hT];simp
 obtain⟨b,c,wS,_⟩:=H1.m.t.form (by omega);have c3:=H1.m.c3;have r3:=H1.m.t;rw[wS]at c3 r3;have cZ:=I (fX.below (N:=C.N0) (aK:=aK) (R:=R) (U:=U) F1);have dD:=I H1;have mJ:=I Ac;have Lc:Hid (∀t,t<ab9.length->∃x y,R.T[t]?=some (x,y)/\(x,y)≠(oN,oA)):=λt ht=>by
  have e:R.T[t]?=some ab9[t]:=by rw[hT,ar ht];exact ξ ht
  exact⟨ab9[t].1,ab9[t].2,e,λe2=>hK (by rw[<- e2];exact aO ht)⟩
 have KS:Hid (R.T[ab9.length]?=some (oN,oA)):=by
  show R.T[ab9.length]?=_;rw[hT];simp
 have iq:=I r3;have HT:=I hT;have gM:=I hlen;have FZ:ab9.length+(Mm.length+1)<1000:=by omega
 clear h F1 q' H1 Ac K wS hx hT hK r3 hlen;generalize hn:R.T.length=n at*;have HN:=I hn;generalize jG:ab9.length=kk at*;generalize f_:Mm.length=mm at*;have Bq:=I jG;have lY:=I f_;clear hn jG f_;go_enter func24,ntmps24;go_upto_region 1 with(fail);generalize w.alloc (cB oN oA)=W at*;go_wp2_with fail;refine(Z HW).mono ?_;rintro ev w1⟨rfl,rfl⟩;have hbl:=(Z mJ).1.lt;have PG:=cZ;generalize w.heap.size=b5 at*;go_wp2_with fail;go_loopw [8] (λs8 wr=>∃t:Nat,s8=.int .i64 t/\t<=kk/\Hid (Below w1.heap.size w1 wr)) (λs _=>kk-(intOf s).toNat)
 case atStart=>exact⟨0,rfl,Γ _,γ _ _⟩
 case round =>
  obtain⟨t,rfl,ht,HB⟩:=hrel;have y0:=((Z HB).cell (p:=⟨b5,0,none⟩) hbl).trans q0;have y1:=((Z HB).cell (p:=⟨b5,1,none⟩) hbl).trans q1;have z3:=((Z HB).cell (p:=⟨aK,3,none⟩) (Z dD).m.tg.lt).trans c3;have zq:(0:Int)<=t:=by omega
  have Qg:IntKind.i64.wrap ((t:Int)+1)=(t:Int)+1:=aB _ (by omega);have EM:(t:Int)<n:=by have:=Z gM;omega
  by_cases Jv:t<kk
  ·obtain⟨x',y',jl,hne⟩:=(Z Lc) t Jv;obtain⟨gr,zl,x0,x1⟩:=jb (aN (Z iq) (Z HB)) (Z HN) jl;obtain rfl:b=gr:=by simpa using zl
   clear jl zl;by_cases hx:x'=oN
   ·subst hx;have hy:¬y'=oA:=λe=>hne (by rw[e]);have hd:decide (y'=oA)=false:=by simpa using hy
    clear hne;go_wp2_with fail;go_quiet (fail);go_wp2_with fail;go_roundw;case rel=>exact⟨t+1,by go_num,by omega,iB (Z HB) _⟩
    case measure=>simp[intOf];omega
   ·have hd:decide (x'=oN)=false:=by simpa using hx
    clear hne;go_wp2_with fail;go_quiet (fail);go_wp2_with fail;go_roundw;case rel=>exact⟨t+1,by go_num,by omega,iB (Z HB) _⟩
    case measure=>simp[intOf];omega
  ·obtain rfl:t=kk:=by omega
   obtain⟨gr,zl,x0,x1⟩:=jb (aN (Z iq) (Z HB)) (Z HN) (Z KS);obtain rfl:b=gr:=by simpa using zl
   clear zl;have Qc:¬(t:Int)=(n:Int):=by have:=Z gM;omega
   have hnd:decide ((t:Int)=(n:Int))=false:=by simpa using Qc
   go_wp2_with fail;go_quiet (fail);have BB:Below w1.heap.size w1 (wr.drewN nq):=iB (Z HB) nq;have H3:=(Z dD).b BB;have fY:=I ((Z PG).trans (fX.below BB));have tu:=I ((Z mJ).b BB);have Kf:=I ((BB.cell (p:=⟨b5,0,none⟩) hbl).trans q0);have Kg:=I ((BB.cell (p:=⟨b5,1,none⟩) hbl).trans q1);have d3:=(BB.cell (p:=⟨aK,3,none⟩) (Z dD).m.tg.lt).trans c3;have xM:=I (aN (Z iq) BB);have eD:=I H3;clear BB H3 y0 y1 z3 x0 x1 c3 HB;generalize wr.drewN nq=W3 at*;have wQ:=I (gC (ab9:=ab9) (M:=Mm) (t:=(oN,oA)) (b:=b) (c:=c) (w:=W3) (by rw[Z Bq,Z lY,<- (Z gM)];have:=Z xM;rw[Z HT]at this;exact this) (by rw[Z Bq,Z lY];omega));rw[Z Bq,Z lY,<- (Z gM)]at wQ;go_wp2_with fail;refine(Z wQ).mono ?_;rintro ev w7⟨v7,rfl,o7,b7⟩;obtain⟨p7,k7,rfl⟩:=aX o7;obtain⟨H8,F8⟩:=(Z eD).Tc b7 o7;obtain⟨e8,BL⟩:=(Z eD).row F8 (Z tu);have z3:=(b7.cell (p:=⟨aK,3,none⟩) (Z eD).m.tg.lt).trans d3;have zf3:=(b7.frozen (p:=⟨aK,3,none⟩) (Z eD).m.tg.lt).trans ((Z eD).m.fz 3);have Qm:=I ((η (a:=⟨b5,0,none⟩) e8).trans (Z Kf));have Qn:=I ((η (a:=⟨b5,1,none⟩) e8).trans (Z Kg));have uI:=I BL;have iY:=I ((Z fY).trans F8);have gW:=I H8;clear wQ o7 H8 F8 e8 BL b7 eD fY tu Kf Kg d3 xM Lc KS iq HT;generalize(ab9++Mm).length=n7 at*;go_upto_region 12 with(fail);generalize w7.setCell ⟨aK,3,none⟩ (.slice p7 n7 k7)=W5 at*;have H6:=Z gW;obtain⟨pl,cl,BQ⟩:=aX H6.m.l;have e4:=H6.m.c4;simp only at BQ e4;rw[BQ,hL]at e4;simp only[aA]at e4;have e1:=H6.m.c1;have e2:=H6.m.c2;have r2:=H6.m.r;simp only at e1 e2 r2;obtain⟨pr,cr,N7⟩:=aX r2;have qx:=I N7;rw[N7]at e2;have hr1:(R.R.length:Int)<(R.most:Int):=by omega
   have d1:decide ((R.R.length:Int)<(R.most:Int))=true:=by simpa using hr
   have x0:=Z Qm;have x1:=Z Qn;have abc:R.R.length<16:=by omega
   generalize hnR:R.R.length=nR at*;have YP:=I hnR;clear H6 BQ N7 hL r2 hnR hr hm;go_wp2_with fail;go_quiet (fail);have bq:Below W5.heap.size W5 (W5.drewN nq):=iB (γ _ _) nq;have H2:=(Z gW).b bq;have kg:=I ((Z uI).b bq);have Km:=(Z uI).1.lt;have x0:=(bq.cell (p:=⟨b5,0,none⟩) Km).trans x0;have x1:=(bq.cell (p:=⟨b5,1,none⟩) Km).trans x1;have eA:=I ((Z iY).trans (fX.below bq));have y2:=H2.m.c2;have f2:=H2.m.fz 2;have r2:=H2.m.r;simp only at y2 r2;rw[Z qx]at y2;rw[Z qx,Z YP]at r2;have T5:=H2.m.tg;have mM:=H2.lo.2;have iu:=I H2;clear H2 bq gW uI iY Qm Qn e1 e2 e4 d1 hr1;generalize W5.drewN nq=W6 at*;have BA:Below W6.heap.size W6 (W6.alloc (cB oN oA)).drew:=(χ (γ _ _) _).drew;have iE:=aN r2 BA;have ir:=T5.b BA;have hNb:B<=(W6.alloc (cB oN oA)).drew.heap.size:=σ mM BA.size;have j9:=(BA.cell (p:=⟨aK,2,none⟩) T5.lt).trans y2;have j_:=(BA.frozen (p:=⟨aK,2,none⟩) T5.lt).trans f2;go_wp2_with fail;go_region_law (refine lT rfl (.tmp 104) (.tmp 106) rfl B (.slice pr nR cr) nR (flat R.R) (by simp[Act.eval]) iE (by simp[Act.eval]) (by omega) hNb ?_;intro g4 c4 w6 o6 q6 hg4 kE;have e6:=q6.block aK ir.lt (d_ iE ir (by decide));have ID:w6.cell? ⟨aK,2,none⟩=some (.slice pr nR cr):=(η (a:=⟨aK,2,none⟩) e6).trans j9;have Di:w6.frozen? ⟨aK,2,none⟩=false:=(π (a:=⟨aK,2,none⟩) e6).trans j_);all_goals
    have yR:(W6.alloc (cB oN oA)).drew.grownBy w6 R.vR.ownBlock:=by rw[Z qx];exact q6
    have qs:R.vR.ownBlock=some g4\/g4=(W6.alloc (cB oN oA)).drew.heap.size:=by rw[Z qx];exact hg4
    obtain⟨H7,F7⟩:=(Z iu).J1 BA (Z YP) o6 yR qs;have zC:=I H7;have zB:=I ((Z eA).trans F7);clear yR qs H7 F7 o6 q6 hg4 kE e6 j9 j_ iE BA ir hNb iu eA kg x0 x1 y2 f2 r2 T5 qx;go_wp2;go_ret;exact⟨rfl,_,_,Z zC,Z zB⟩
end
section
variable {B:Nat}{C:Dc}{M:Mc}{aK N:Nat}{U U':Nat->Prop}{S S':Ds}{R:Rs}{w w1 w':World}{x y:Int}{o:Bl}
theorem si (h:RP B C M aK U S R w)(K:R.cl=false)(hx:0<=x/\x<S.ws.length){ab9 Mm:List Bl}(hT:R.T=ab9++o::Mm)(hK:o∉ab9)(BP:R.T.length<1000)(hL:R.L=[])(hr:R.most<=R.R.length)(hF:FA C S)(hQ:S.ab5<=1000)(dR:S.ws.length<=4){r:Option Nat}(hG:yj C S x o r S'):
  Calls prog 24 #[.pointer (some ⟨aK,0,none⟩),.int .i64 x,.agg #[.int .i64 o.1,.int .i64 o.2]] w λev w'=>ev=.returned (.int .i64 (XD r))/\∃ie U',RP B C M aK U' S' {R with T:=ab9++Mm,vT:=ie} w'/\fX C.N0 aK R {R with T:=ab9++Mm,vT:=ie} U U' w w':=by
 obtain⟨oN,oA⟩:=o;have F1:=χ (γ w.heap.size w) (cB oN oA);have q':=θ w #[.int .i64 oN,.int .i64 oA] 34;have q0:=q' 0;have q1:=q' 1;simp only[Δ,υ,ω]at q0 q1;have H1:=h.b F1;have Ac:=h.fresh (bB w #[.int .i64 oN,.int .i64 oA] 34) (ζ _);have c7:=H1.m.c7;rw[K]at c7;have c0:=H1.m.c0;have HW:=I (H1.worker x);rw[aM hx]at HW;have hlen:R.T.length=ab9.length+(Mm.length+1):=by rw[hT];simp
 obtain⟨b,c,wS,_⟩:=H1.m.t.form (by omega);have c3:=H1.m.c3;have r3:=H1.m.t;rw[wS]at c3 r3;have cZ:=I (fX.below (N:=C.N0) (aK:=aK) (R:=R) (U:=U) F1);have dD:=I H1;have mJ:=I Ac;have Lc:Hid (∀t,t<ab9.length->∃x y,R.T[t]?=some (x,y)/\(x,y)≠(oN,oA)):=λt ht=>by
  have e:R.T[t]?=some ab9[t]:=by rw[hT,ar ht];exact ξ ht
  exact⟨ab9[t].1,ab9[t].2,e,λe2=>hK (by rw[<- e2];exact aO ht)⟩
 have KS:Hid (R.T[ab9.length]?=some (oN,oA)):=by
  show R.T[ab9.length]?=_;rw[hT];simp
 have iq:=I r3;have HT:=I hT;have gM:=I hlen;have FZ:ab9.length+(Mm.length+1)<1000:=by omega
 have uC:Hid (∀W,AD C M U S W->Calls prog 84 #[.pointer (some ⟨M.rd,0,none⟩),.int .i64 x,.agg #[.int .i64 oN,.int .i64 oA]] W λev w'=>ev=.returned (.int .i64 (XD r))/\∃U',AD C M U' S' w'/\bD R6 C.N0 W w'/\(∀j,U j->U' j)/\∀j,U' j->U j\/W.heap.size<=j):=λW hW=>rZ (o:=(oN,oA)) hW hF hQ dR hG;clear hG hF;clear h F1 q' H1 Ac K wS hx hT hK r3 hlen;generalize hn:R.T.length=n at*;have HN:=I hn;generalize jG:ab9.length=kk at*;generalize f_:Mm.length=mm at*;have Bq:=I jG;have lY:=I f_;clear hn jG f_;go_enter func24,ntmps24;go_upto_region 1 with(fail);generalize w.alloc (cB oN oA)=W at*;go_wp2_with fail;refine(Z HW).mono ?_;rintro ev w1⟨rfl,rfl⟩;have hbl:=(Z mJ).1.lt;have PG:=cZ;generalize w.heap.size=b5 at*;go_wp2_with fail;go_loopw [8] (λs8 wr=>∃t:Nat,s8=.int .i64 t/\t<=kk/\Hid (Below w1.heap.size w1 wr)) (λs _=>kk-(intOf s).toNat)
 case atStart=>exact⟨0,rfl,Γ _,γ _ _⟩
 case round =>
  obtain⟨t,rfl,ht,HB⟩:=hrel;have y0:=((Z HB).cell (p:=⟨b5,0,none⟩) hbl).trans q0;have y1:=((Z HB).cell (p:=⟨b5,1,none⟩) hbl).trans q1;have z3:=((Z HB).cell (p:=⟨aK,3,none⟩) (Z dD).m.tg.lt).trans c3;have zq:(0:Int)<=t:=by omega
  have Qg:IntKind.i64.wrap ((t:Int)+1)=(t:Int)+1:=aB _ (by omega);have EM:(t:Int)<n:=by have:=Z gM;omega
  by_cases Jv:t<kk
  ·obtain⟨x',y',jl,hne⟩:=(Z Lc) t Jv;obtain⟨gr,zl,x0,x1⟩:=jb (aN (Z iq) (Z HB)) (Z HN) jl;obtain rfl:b=gr:=by simpa using zl
   clear jl zl;by_cases hx:x'=oN
   ·subst hx;have hy:¬y'=oA:=λe=>hne (by rw[e]);have hd:decide (y'=oA)=false:=by simpa using hy
    clear hne;go_wp2_with fail;go_quiet (fail);go_wp2_with fail;go_roundw;case rel=>exact⟨t+1,by go_num,by omega,iB (Z HB) _⟩
    case measure=>simp[intOf];omega
   ·have hd:decide (x'=oN)=false:=by simpa using hx
    clear hne;go_wp2_with fail;go_quiet (fail);go_wp2_with fail;go_roundw;case rel=>exact⟨t+1,by go_num,by omega,iB (Z HB) _⟩
    case measure=>simp[intOf];omega
  ·obtain rfl:t=kk:=by omega
   obtain⟨gr,zl,x0,x1⟩:=jb (aN (Z iq) (Z HB)) (Z HN) (Z KS);obtain rfl:b=gr:=by simpa using zl
   clear zl;have Qc:¬(t:Int)=(n:Int):=by have:=Z gM;omega
   have hnd:decide ((t:Int)=(n:Int))=false:=by simpa using Qc
   go_wp2_with fail;go_quiet (fail);have BB:Below w1.heap.size w1 (wr.drewN nq):=iB (Z HB) nq;have H3:=(Z dD).b BB;have fY:=I ((Z PG).trans (fX.below BB));have tu:=I ((Z mJ).b BB);have Kf:=I ((BB.cell (p:=⟨b5,0,none⟩) hbl).trans q0);have Kg:=I ((BB.cell (p:=⟨b5,1,none⟩) hbl).trans q1);have d3:=(BB.cell (p:=⟨aK,3,none⟩) (Z dD).m.tg.lt).trans c3;have xM:=I (aN (Z iq) BB);have eD:=I H3;clear BB H3 y0 y1 z3 x0 x1 c3 HB;generalize wr.drewN nq=W3 at*;have wQ:=I (gC (ab9:=ab9) (M:=Mm) (t:=(oN,oA)) (b:=b) (c:=c) (w:=W3) (by rw[Z Bq,Z lY,<- (Z gM)];have:=Z xM;rw[Z HT]at this;exact this) (by rw[Z Bq,Z lY];omega));rw[Z Bq,Z lY,<- (Z gM)]at wQ;go_wp2_with fail;refine(Z wQ).mono ?_;rintro ev w7⟨v7,rfl,o7,b7⟩;obtain⟨p7,k7,rfl⟩:=aX o7;obtain⟨H8,F8⟩:=(Z eD).Tc b7 o7;obtain⟨e8,BL⟩:=(Z eD).row F8 (Z tu);have z3:=(b7.cell (p:=⟨aK,3,none⟩) (Z eD).m.tg.lt).trans d3;have zf3:=(b7.frozen (p:=⟨aK,3,none⟩) (Z eD).m.tg.lt).trans ((Z eD).m.fz 3);have Qm:=I ((η (a:=⟨b5,0,none⟩) e8).trans (Z Kf));have Qn:=I ((η (a:=⟨b5,1,none⟩) e8).trans (Z Kg));have uI:=I BL;have iY:=I ((Z fY).trans F8);have gW:=I H8;clear wQ o7 H8 F8 e8 BL b7 eD fY tu Kf Kg d3 xM Lc KS iq HT;generalize(ab9++Mm).length=n7 at*;go_upto_region 12 with(fail);generalize w7.setCell ⟨aK,3,none⟩ (.slice p7 n7 k7)=W5 at*;have H6:=Z gW;obtain⟨pl,cl,BQ⟩:=aX H6.m.l;have e4:=H6.m.c4;simp only at BQ e4;rw[BQ,hL]at e4;simp only[aA]at e4;have e1:=H6.m.c1;have e2:=H6.m.c2;have r2:=H6.m.r;simp only at e1 e2 r2;obtain⟨pr,cr,N7⟩:=aX r2;rw[N7]at e2;have hr1:¬(R.R.length:Int)<(R.most:Int):=by omega
   have d1:decide ((R.R.length:Int)<(R.most:Int))=false:=by simpa using hr
   have x0:=Z Qm;have x1:=Z Qn;generalize R.R.length=nR at*;clear H6 BQ N7 hL r2 hr;go_wp2_with fail;go_quiet (fail);have bq:Below W5.heap.size W5 (W5.drewN nq):=iB (γ _ _) nq;have H2:=(Z gW).b bq;have Km:=(Z uI).1.lt;have x0:=(bq.cell (p:=⟨b5,0,none⟩) Km).trans x0;have x1:=(bq.cell (p:=⟨b5,1,none⟩) Km).trans x1;have eA:=I ((Z iY).trans (fX.below bq));have y0:=H2.m.c0;have iu:=I H2;have ZX:=I ((Z uC) _ (H2.b (dw _)).k);clear H2 bq gW uI iY Qm Qn e1 e2 e4 uC;generalize W5.drewN nq=W6 at*;go_wp2_with fail;go_region_with ((go_at_call 84;refine(Z ZX).mono ?_;rintro ev w8⟨rfl,U',D8,C8,u8,v8⟩));all_goals
    obtain⟨H9,F9⟩:=((Z iu).b (dw _)).dep D8 C8 v8;have Uy:=I H9;have XR:=I (((Z eA).trans (fX.below (dw _))).trans F9);clear H9 F9 D8 C8 u8 v8 iu eA ZX x0 x1 y0;go_wp2;go_ret;exact⟨rfl,_,_,Z Uy,Z XR⟩
end
end Pl
end Go.Proofs.YtcbmfakjfoggaaaGreatDoor
