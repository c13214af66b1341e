/- H40 -/
import Derived.Test.YtcbmfakjfoggaaaGreatDoorA0
import Derived.Test.YtcbmfakjfoggaaaGreatDoorH36
import Derived.Test.YtcbmfakjfoggaaaGreatDoorH37
import Derived.Test.YtcbmfakjfoggaaaGreatDoorH38
import Derived.Test.YtcbmfakjfoggaaaGreatDoorH39
set_option maxHeartbeats 0
set_option maxRecDepth 100000
namespace Go.Proofs.YtcbmfakjfoggaaaGreatDoor
open _root_.Go.Proofs.Tryz Go.RowKit Go.Maps
namespace Pl
open Fr Bd Zn Dz Sb Mg Rd
variable {o:Bl}{ab6:List (Nat×Bl)}{t:Int}
theorem F_ {ab9 M:List Bl}(hK:o∉ab9):(ab9++o::M).erase o=ab9++M:=by
 rw[List.erase_append_right _ hK,List.erase_cons_head]
theorem sj (h:fT ab6 t=some o):∃(ab9:List (Nat×Bl)) (tt:Nat) (M:List (Nat×Bl)),ab6=ab9++(tt,o)::M/\(tt:Int)=t/\∀p∈ab9,(p.1:Int)≠t:=by
 unfold fT at h;obtain⟨⟨tt,o'⟩,G,O⟩:=dr.1 h;obtain⟨h3,ab9,M,h4,h5⟩:=List.find?_eq_some_iff_append.1 G;simp only at O;subst O;exact⟨ab9,tt,M,h4,by simpa using h3,λp hp=>by simpa using h5 p hp⟩
theorem DV (h:fT ab6 t=none):∀p∈ab6,(p.1:Int)≠t:=by
 unfold fT at h;rw[Option.map_eq_none_iff]at h;intro p hp;simpa using dn.1 h p hp
theorem Kn {ab9 M:List (Nat×Bl)}{tt:Nat}(hn:((ab9++(tt,o)::M).map (·.1)).Nodup):g_ (ab9++(tt,o)::M) (tt:Int)=ab9++M:=by
 have D:∀p∈ab9++M,(p.1:Int)≠tt:=λp hp e=>by
  have e1:p.1=tt:=by omega
  have xW:((ab9++(tt,o)::M).map (·.1)).Perm (tt::(ab9++M).map (·.1)):=by
   simp only[cU,dL];exact eF
  exact(a_.1 (xW.nodup_iff.1 hn)).1 (by rw[<- e1];exact fq hp)
 unfold g_;rw[cE,bZ];simp only[ne_eq,not_true_eq_false,decide_false,gU,if_false];rw[cG.2 (λp hp=>by simpa using D p (by simp[hp])),cG.2 (λp hp=>by simpa using D p (by simp[hp]))]
section
variable {C:Dc}{S S':Ds}{P P':Ps}{R R':Rs}{n:Nat}{o:Bl}{x:Int}{r:Option Nat}
theorem PJ.drop {ab9 M:List Bl}{ie:Value}(h:PJ C S P R n)(hT:P.T=ab9++o::M)(hK:o∉ab9):PJ C S {P with T:=P.T.erase o} {R with T:=ab9++M,vT:=ie} n/\o∉P.R++(P.T.erase o++P.ab6.map (·.2))/\di C S o:=by
 have he:P.T.erase o=ab9++M:=by rw[hT];exact F_ hK
 have hp:(P.R++(P.T++P.ab6.map (·.2))).Perm (o::(P.R++(P.T.erase o++P.ab6.map (·.2)))):=by
  rw[he,hT];simp only[aJ,cJ];rw[<- aJ,<- aJ];exact eF
 have hn:=hp.nodup_iff.1 h.V;obtain⟨n1,n2⟩:=a_.1 hn;refine⟨⟨h.e1,h.e2,he.symm,h.e4,h.e5,h.e6,h.e7,h.most,h.rl,h.ab5,h.q,h.tk,h.ln,h.lt,h.yt,h.DR,h.FX,n2,λp sx=>h.out p (hp.mem_iff.2 (aD _ sx)),?_,h.yl⟩,n1,h.out o (hp.mem_iff.2 (by simp))⟩;have:=h.tl;simp only[he];rw[hT]at this;simp only[φ,bk]at this ⊢;omega
theorem PJ.Qo {ab9 M:List (Nat×Bl)}{tt:Nat}{lq:Value}(h:PJ C S P R n)(hY:P.ab6=ab9++(tt,o)::M):PJ C S {P with ab6:=g_ P.ab6 (tt:Int)} {R with ab6:=ab9++M,vY:=lq} n/\o∉P.R++(P.T++(g_ P.ab6 (tt:Int)).map (·.2))/\di C S o:=by
 have ZY:=h.FX;have he:g_ P.ab6 (tt:Int)=ab9++M:=by rw[hY]at ZY ⊢;exact Kn ZY
 have hp:(P.R++(P.T++P.ab6.map (·.2))).Perm (o::(P.R++(P.T++(g_ P.ab6 (tt:Int)).map (·.2)))):=by
  rw[he,hY];simp only[cU,dL];rw[<- aJ,<- aJ,<- aJ,<- aJ];exact eF
 have D:P.ab6.map (·.1)=ab9.map (·.1)++tt::M.map (·.1):=by rw[hY];simp
 have hk2:(g_ P.ab6 (tt:Int)).map (·.1)=ab9.map (·.1)++M.map (·.1):=by rw[he];simp
 have sX:∀t,t∈(g_ P.ab6 (tt:Int)).map (·.1)->t∈P.ab6.map (·.1):=λt ht=>by
  rw[hk2]at ht;rw[D];simp only[aC,ae]at ht ⊢;rcases ht with ht|ht
  ·exact ε ht
  ·exact δ (δ ht)
 have hn:=hp.nodup_iff.1 h.V;obtain⟨n1,n2⟩:=a_.1 hn;refine⟨⟨h.e1,h.e2,h.e3,h.e4,he.symm,h.e6,h.e7,h.most,h.rl,h.ab5,h.q,h.tk,h.ln,λt ht=>⟨(h.lt t ht).1,λhm=>(h.lt t ht).2 (sX t hm)⟩,λt ht=>h.yt t (sX t ht),h.DR,?_,n2,λp sx=>h.out p (hp.mem_iff.2 (aD _ sx)),h.tl,?_⟩,n1,h.out o (hp.mem_iff.2 (by simp))⟩
 ·show((g_ P.ab6 (tt:Int)).map (·.1)).Nodup;rw[hk2];rw[D]at ZY;exact(a_.1 (eF.nodup_iff.1 ZY)).2
 ·have:=h.yl;simp only[he];rw[hY]at this;simp only[φ,bk]at this ⊢;omega
theorem PJ.line {t:Nat}{L:List Nat}{ic lq kj:Value}(h:PJ C S P R n)(ho:o∉P.R++(P.T++P.ab6.map (·.2)))(hi:di C S o)(hL:P.L=t::L):PJ C S {P with ab6:=P.ab6++[(t,o)],q:=P.q+1,L:=L,vl:=ic} {R with L:=L,ab6:=R.ab6++[(t,o)],vY:=lq,vL:=kj} (n+1):=by
 have rH:=h.DR;have hlt:=h.lt;rw[hL]at rH hlt;obtain⟨l1,l2⟩:=a_.1 rH;have hp:(P.R++(P.T++(P.ab6++[(t,o)]).map (·.2))).Perm ((P.R++(P.T++P.ab6.map (·.2)))++[o]):=by
  simp only[cU,dL,List.map_nil,aJ];exact List.Perm.refl _
 refine⟨h.e1,h.e2,h.e3,rfl,by simp only;rw[h.e5],h.e6,h.e7,h.most,h.rl,by have:=h.ab5;omega,by have:=h.q;simp only;omega,by have:=h.tk;simp only;omega,by have:=h.ln;rw[hL]at this;simp only[bk]at this;simp only;omega,λt' ht=>?_,λt' ht=>?_,l2,?_,?_,λp sx=>?_,by have:=h.tl;simp only;omega,by have:=h.yl;simp only[φ,ag];omega⟩
 ·obtain⟨G,O⟩:=hlt t' (aD _ ht);refine⟨G,λhm=>?_⟩;simp only[cU,dL,List.map_nil,aC,aw]at hm;rcases hm with hm|rfl
  ·exact O hm
  ·exact l1 ht
 ·simp only[cU,dL,List.map_nil,aC,aw]at ht;rcases ht with ht|rfl
  ·exact h.yt t' ht
  ·exact(hlt t' (by simp)).1
 ·simp only[cU,dL,List.map_nil];refine aF.2 ⟨h.FX,by simp,λa ha b J e=>?_⟩;simp only[aw]at J;exact(hlt t (by simp)).2 (by rw[<- J,<- e];exact ha)
 ·refine hp.nodup_iff.2 (aF.2 ⟨h.V,by simp,λa ha b J e=>?_⟩);simp only[aw]at J;exact ho (by rw[<- J,<- e];exact ha)
 ·have:=hp.mem_iff.1 sx;rcases aC.1 this with e|e
  ·exact h.out p e
  ·simp only[aw]at e;rw[e];exact hi
theorem PJ.room {rR DT:Value}(h:PJ C S P R n)(ho:o∉P.R++(P.T++P.ab6.map (·.2)))(hi:di C S o)(hr:P.R.length<P.most):PJ C S {P with R:=P.R++[o],vr:=rR} {R with R:=R.R++[o],vR:=DT} (n+1):=by
 have hp:((P.R++[o])++(P.T++P.ab6.map (·.2))).Perm (o::(P.R++(P.T++P.ab6.map (·.2)))):=by
  rw[aJ];exact eF
 refine⟨h.e1,by simp only;rw[h.e2],h.e3,h.e4,h.e5,h.e6,h.e7,h.most,by simp only[φ,ag];omega,by have:=h.ab5;omega,by have:=h.q;simp only;omega,by have:=h.tk;simp only;omega,h.ln,h.lt,h.yt,h.DR,h.FX,hp.nodup_iff.2 (a_.2 ⟨ho,h.V⟩),λp sx=>?_,by have:=h.tl;simp only;omega,by have:=h.yl;simp only;omega⟩;rcases ae.1 (hp.mem_iff.1 sx)with rfl|e
 ·exact hi
 ·exact h.out p e
theorem PJ.full (h:PJ C S P R n)(ho:o∉P.R++(P.T++P.ab6.map (·.2)))(hF:FA C S)(hG:yj C S x o r S'):PJ C S' P R (n+1):=
 ⟨h.e1,h.e2,h.e3,h.e4,h.e5,h.e6,h.e7,h.most,h.rl,by have:=h.ab5;have:=hG.ab5;omega,by have:=h.q;omega,by have:=h.tk;omega,h.ln,h.lt,h.yt,h.DR,h.FX,h.V,λp hp=>N2 hF hG (h.out p hp) (λe=>ho (e▸hp)),by have:=h.tl;omega,by have:=h.yl;omega⟩
end
def Ga (e:Nat->Addr)(v1 v2:Value):Prop:=∃(r:Int),v2=.int .i64 r/\Uz e v1 r
section
variable {n:Nat}{ab4:Nat->Prop}{w:World}{p:Px}
theorem N9 (hp:wR p)(h:r9 p n ab4 w)(hn:n<=150)(x:Int){o:Bl}(hw2:W2 o.1 o.2):A2 p n 19 #[.pointer (some ⟨p.Y,0,none⟩),.int .i64 x,.agg #[.int .i64 o.1,.int .i64 o.2]] 24 #[.pointer (some ⟨p.aK,0,none⟩),.int .i64 x,.agg #[.int .i64 o.1,.int .i64 o.2]] (Ga p.e) ab4 w:=by
 obtain⟨F,ym,U,S,P,R,h,E,dR⟩:=h;have mC:=h.p.k.fa;have N5:S.ab5<=1000:=by have:=E.ab5;omega
 refine(J9 h.p hp.hN hp.he (E.pi (by omega)) x hw2).mono ?_;rintro ev w1⟨r,S',P',rfl,hG,hD,hF⟩;cases hG with
 |bound hx=>exact⟨_,_,_,rfl,⟨_,rfl,eL 1 (by omega)⟩,ij,h.pgr hD hF,hF.lf (λj E=>δ E),λO' w2 hK=>PQ.same hK E dR (zg hK.r E.e7 hx o)⟩
 |lV hx ho =>
  have KX:o∉R.T:=λhm=>ho ⟨by rw[<- E.e3];exact hm,E.out o (by rw[E.e3]at hm;simp[hm])⟩;exact⟨_,_,_,rfl,⟨_,rfl,eL 8 (by omega)⟩,ij,h.pgr hD hF,hF.lf (λj E=>δ E),λO' w2 hK=>PQ.same hK E dR (zh hK.r E.e7 hx KX (by rw[E.e3];have:=E.tl;omega))⟩
 |no m S' P' hx ho hi z_ =>
  cases z_ with
  |full r S' hL hr hg=>cases DO hx hi hg
 |yes S' P' hx ho hi z_ =>
  obtain⟨ab9,M,hT⟩:=List.append_of_mem ho;have hK:o∉ab9:=λhm=>by
   have G:=(aF.1 (aF.1 E.V).2.1).1;rw[hT]at G;exact(aF.1 G).2.2 o hm o (by simp) rfl
  have hRT:R.T=ab9++o::M:=E.e3.trans hT;have BP:R.T.length<1000:=by rw[E.e3];have:=E.tl;omega
  cases z_ with
  |line t L ic hL =>
   refine⟨_,_,_,rfl,⟨_,rfl,ig⟩,ij,h.pgr hD hF,hF.lf (λj E=>δ E),λO' w2 hK2=>PQ.answer hK2 hp ?_⟩;refine(sf hK2.r E.e7 hx hRT hK BP (E.e4.trans hL) (by have:=E.ln;rw[hL]at this;simp only[bk]at this;omega) (by rw[E.e5];have:=E.yl;omega)).mono ?_;rintro ev w3⟨rfl,ie,lq,kj,pO,hf⟩;obtain⟨j1,j2,j3⟩:=E.drop (ie:=ie) hT hK;exact⟨rfl,_,U,j1.line (ic:=ic) (lq:=lq) (kj:=kj) j2 j3 hL,dR,pO,hf⟩
  |room rR hL hr =>
   refine⟨_,_,_,rfl,⟨_,rfl,ig⟩,ij,h.pgr hD hF,hF.lf (λj E=>δ E),λO' w2 hK2=>PQ.answer hK2 hp ?_⟩;refine(sg hK2.r E.e7 hx hRT hK BP (E.e4.trans hL) (by rw[E.e1,E.e2];exact hr) (by rw[E.e1];exact E.most)).mono ?_;rintro ev w3⟨rfl,ie,DT,pO,hf⟩;obtain⟨j1,j2,j3⟩:=E.drop (ie:=ie) hT hK;exact⟨rfl,_,U,j1.room (rR:=rR) (DT:=DT) j2 j3 hr,dR,pO,hf⟩
  |full r S' hL hr hg =>
   refine⟨_,_,_,rfl,⟨_,rfl,ig⟩,ij,h.pgr hD hF,hF.lf (λj E=>δ E),λO' w2 hK2=>PQ.answer hK2 hp ?_⟩;refine(si hK2.r E.e7 hx hRT hK BP (E.e4.trans hL) (by rw[E.e1,E.e2];exact hr) mC N5 (by omega) hg).mono ?_;rintro ev w3⟨rfl,ie,U',pO,hf⟩;obtain⟨j1,j2,j3⟩:=E.drop (ie:=ie) hT hK;exact⟨rfl,_,U',j1.full j2 mC hg,(hg.wl mC).trans dR,pO,hf⟩
end
section
variable {C:Dc}{S S':Ds}{P P':Ps}{R R':Rs}{n:Nat}{o:Bl}{x:Int}{r:Option Nat}
theorem PJ.re (h:PJ C S P R n)(a1:R'.most=R.most)(a2:R'.R=R.R)(a3:R'.T=R.T)(a4:R'.L=R.L)(a5:R'.ab6=R.ab6)(a6:R'.last=R.last)(a7:R'.cl=R.cl):PJ C S P R' n :=
 ⟨a1.trans h.e1,a2.trans h.e2,a3.trans h.e3,a4.trans h.e4,a5.trans h.e5,a6.trans h.e6,a7.trans h.e7,h.most,h.rl,h.ab5,h.q,h.tk,h.ln,h.lt,h.yt,h.DR,h.FX,h.V,h.out,h.tl,h.yl⟩
theorem PJ.tin {ie:Value}(h:PJ C S P R n)(ho:o∉P.R++(P.T++P.ab6.map (·.2)))(hi:di C S o):PJ C S {P with T:=P.T++[o],q:=P.q+1} {R with T:=R.T++[o],vT:=ie} (n+1):=by
 have hp:(P.R++((P.T++[o])++P.ab6.map (·.2))).Perm (o::(P.R++(P.T++P.ab6.map (·.2)))):=by
  simp only[aJ,cJ,aT];rw[<- aJ,<- aJ];exact eF
 refine⟨h.e1,h.e2,by simp only;rw[h.e3],h.e4,h.e5,h.e6,h.e7,h.most,h.rl,by have:=h.ab5;omega,by have:=h.q;simp only;omega,by have:=h.tk;simp only;omega,h.ln,h.lt,h.yt,h.DR,h.FX,hp.nodup_iff.2 (a_.2 ⟨ho,h.V⟩),λp sx=>?_,by have:=h.tl;simp only[φ,ag];omega,by have:=h.yl;simp only;omega⟩;rcases ae.1 (hp.mem_iff.1 sx)with rfl|e
 ·exact hi
 ·exact h.out p e
theorem PJ.abh {ab9 M:List Nat}{tt:Nat}{ic kj:Value}(h:PJ C S P R n)(hL:P.L=ab9++tt::M):PJ C S {P with L:=ab9++M,vl:=ic} {R with L:=ab9++M,vL:=kj} (n+1):=by
 have rH:=h.DR;rw[hL]at rH;have sX:∀t∈ab9++M,t∈P.L:=λt ht=>by
  rw[hL];simp only[aC,ae]at ht ⊢;rcases ht with ht|ht
  ·exact ε ht
  ·exact δ (δ ht)
 have kI:=h.ln;rw[hL]at kI;simp only[φ,bk]at kI;exact⟨h.e1,h.e2,h.e3,rfl,h.e5,h.e6,h.e7,h.most,h.rl,by have:=h.ab5;omega,by have:=h.q;simp only;omega,by have:=h.tk;simp only;omega,by simp only[φ];omega,λt ht=>h.lt t (sX t ht),h.yt,(a_.1 (eF.nodup_iff.1 rH)).2,h.FX,h.V,h.out,by have:=h.tl;simp only;omega,by have:=h.yl;simp only;omega⟩
end
def RdV (e:Nat->Addr)(v1 v2:Value):Prop:=∃(o:Bl) (g:Bool) (er:Value) (r:Int),v1=.tuple #[bz o.1 o.2,.bool g,er]/\v2=.tuple #[bz o.1 o.2,.bool g,.int .i64 r]/\Uz e er r/\W2 o.1 o.2
section
variable {n:Nat}{ab4:Nat->Prop}{w:World}{p:Px}
theorem Kq (hp:wR p)(h:r9 p n ab4 w)(hn:n<=150)(t:Int)(ht:(Lit.int .i64 t).wf=true):A2 p n 20 #[.pointer (some ⟨p.Y,0,none⟩),.int .i64 t] 25 #[.pointer (some ⟨p.aK,0,none⟩),.int .i64 t] (RdV p.e) ab4 w:=by
 obtain⟨F,ym,U,S,P,R,h,E,dR⟩:=h;have kI:R.L.length<=8:=by rw[E.e4];exact E.ln
 have Ts:R.ab6.length<1000:=by rw[E.e5];have:=E.yl;omega
 have BP:R.T.length<1000:=by rw[E.e3];have:=E.tl;omega
 cases hy:fT P.ab6 t with
 |some o =>
  obtain⟨ab9,tt,M,hY,rfl,hK⟩:=sj hy;obtain⟨j1,j2,j3⟩:=E.Qo (lq:=R.vY) hY;have KX:o∉P.T:=λhm=>j2 (by simp[hm]);have MM:¬Wt R.L (tt:Int):=by
   rintro⟨k,D,e⟩;obtain rfl:k=tt:=by omega
   rw[E.e4]at D;exact(E.lt k D).2 (by rw[hY];simp)
  refine(Fq h.p ht hy KX (iX h.p.k j3) (by have:=E.q;unfold maxLen;omega)).mono ?_;rintro ev w1⟨rfl,hD,hF⟩;refine⟨_,_,_,rfl,⟨o,true,_,_,rfl,rfl,ig,iX h.p.k j3⟩,ij,h.pgr hD hF,hF.lf (λj E=>δ E),λO' w2 hK2=>PQ.answer hK2 hp ?_⟩;refine(BR hK2.r E.e7 kI Ts BP MM (E.e5.trans hY) hK).mono ?_;rintro ev w3⟨rfl,lq,ie,pO,hf⟩;refine⟨rfl,_,U,?_,dR,pO,hf⟩;exact(j1.tin (ie:=ie) j2 j3).re rfl rfl rfl rfl rfl rfl rfl
 |none =>
  have hno:∀q∈R.ab6,(q.1:Int)≠t:=by rw[E.e5];exact DV hy
  by_cases hw:Wt P.L t
  ·refine(r8 h.p hp.he ht hy true ⟨λ_=>hw,λ_=>rfl⟩).mono ?_;rintro ev w1⟨rfl,hD,hF⟩;exact⟨_,_,_,rfl,⟨(0,0),false,_,_,rfl,rfl,ig,Lb⟩,ij,h.pgr hD hF,hF.lf (λj E=>δ E),λO' w2 hK2=>PQ.same hK2 E dR (Gb hK2.r E.e7 kI (by rw[E.e4];exact hw))⟩
  ·refine(r8 h.p hp.he ht hy false ⟨λh=>(by cases h),λh=>absurd h hw⟩).mono ?_;rintro ev w1⟨rfl,hD,hF⟩;exact⟨_,_,_,rfl,⟨(0,0),false,_,_,rfl,rfl,eL 3 (by omega),Lb⟩,ij,h.pgr hD hF,hF.lf (λj E=>δ E),λO' w2 hK2=>PQ.same hK2 E dR (zm hK2.r E.e7 kI Ts (by rw[E.e4];exact hw) hno)⟩
theorem Gc (hp:wR p)(h:r9 p n ab4 w)(hn:n<=150)(t:Int)(ht:(Lit.int .i64 t).wf=true):A2 p n 26 #[.pointer (some ⟨p.Y,0,none⟩),.int .i64 t] 27 #[.pointer (some ⟨p.aK,0,none⟩),.int .i64 t] (Ga p.e) ab4 w:=by
 obtain⟨F,ym,U,S,P,R,h,E,dR⟩:=h;have mC:=h.p.k.fa;have N5:S.ab5<=1000:=by have:=E.ab5;omega
 have kI:R.L.length<=8:=by rw[E.e4];exact E.ln
 have Ts:R.ab6.length<1000:=by rw[E.e5];have:=E.yl;omega
 have BP:R.T.length<1000:=by rw[E.e3];have:=E.tl;omega
 cases hy:fT P.ab6 t with
 |some o =>
  obtain⟨ab9,tt,M,hY,rfl,hK⟩:=sj hy;obtain⟨j1,j2,j3⟩:=E.Qo (lq:=R.vY) hY;have KX:o∉R.T:=λhm=>j2 (by rw[E.e3]at hm;simp[hm]);have hYl:(ab9++M).length<1000:=by
   rw[E.e5,hY]at Ts;simp only[φ,bk]at Ts ⊢;omega
  have FZ:(R.T++[o]).length<1000:=by
   rw[E.e3];have:=E.tl;simp only[φ,ag];omega
  have hx:(0:Int)<=0/\(0:Int)<S.ws.length:=by omega
  have MM:¬Wt R.L (tt:Int):=by
   rintro⟨k,D,e⟩;obtain rfl:k=tt:=by omega
   rw[E.e4]at D;exact(E.lt k D).2 (by rw[hY];simp)
  refine(BJ h.p hp.hN hp.he (E.pi (by omega)) ht hy).mono ?_;rintro ev w1⟨rfl,r,S',P',z_,hD,hF⟩;refine⟨_,_,_,rfl,⟨_,rfl,ig⟩,ij,h.pgr hD hF,hF.lf (λj E=>δ E),λO' w2 hK2=>PQ.answer hK2 hp ?_⟩;refine(zn hK2.r E.e7 kI Ts BP MM (E.e5.trans hY) hK (r:=0) (Φ:=λR2 U2 S2=>PJ p.C S' P' R2 (n+1)/\S2=S'/\S'.ws.length=2) (λlq ie W hW=>?_)).mono ?_
  ·cases z_ with
   |line t' L ic hL =>
    refine(sf hW E.e7 hx (ab9:=R.T) (Mm:=[]) rfl KX FZ (E.e4.trans hL) (by have:=E.ln;simp only at hL;rw[hL]at this;simp only[bk]at this;omega) hYl).mono ?_;rintro ev w3⟨rfl,vT2,vY2,vL2,pO,hf⟩;refine⟨rfl,_,_,_,⟨?_,rfl,dR⟩,pO,hf⟩;exact(j1.line (ic:=ic) (lq:=vY2) (kj:=vL2) j2 j3 hL).re rfl rfl (dF _) rfl rfl rfl rfl
   |room rR hL hr =>
    refine(sg hW E.e7 hx (ab9:=R.T) (Mm:=[]) rfl KX FZ (E.e4.trans hL) (by show R.R.length<R.most;rw[E.e1,E.e2];exact hr) (by show R.most<=16;rw[E.e1];exact E.most)).mono ?_;rintro ev w3⟨rfl,vT2,vR2,pO,hf⟩;refine⟨rfl,_,_,_,⟨?_,rfl,dR⟩,pO,hf⟩;exact(j1.room (rR:=rR) (DT:=vR2) j2 j3 hr).re rfl rfl (dF _) rfl rfl rfl rfl
   |full r S' hL hr hg =>
    have wI:=DO hx j3 hg;subst wI;refine(si hW E.e7 hx (ab9:=R.T) (Mm:=[]) rfl KX FZ (E.e4.trans hL) (by show R.most<=R.R.length;rw[E.e1,E.e2];exact hr) mC N5 (by omega) hg).mono ?_;rintro ev w3⟨rfl,vT2,U2,pO,hf⟩;refine⟨rfl,_,_,_,⟨?_,rfl,(hg.wl mC).trans dR⟩,pO,hf⟩;exact(j1.full j2 mC hg).re rfl rfl (dF _) rfl rfl rfl rfl
  ·rintro ev w3⟨rfl,R2,U2,S2,⟨hj2,rfl,hw2⟩,pO,hf⟩;exact⟨rfl,_,_,hj2,hw2,pO,hf⟩
 |none =>
  have hno:∀q∈R.ab6,(q.1:Int)≠t:=by rw[E.e5];exact DV hy
  by_cases hw:Wt P.L t
  ·obtain⟨tt,hm,rfl⟩:=hw;obtain⟨ab9,M,hL⟩:=List.append_of_mem hm;have hKn:tt∉ab9:=λD=>by
    have G:=E.DR;rw[hL]at G;exact(aF.1 G).2.2 tt D tt (by simp) rfl
   refine(y9 h.p (E.pi (by omega)) hy hL hKn).mono ?_;rintro ev w1⟨rfl,ic,hD,hF⟩;refine⟨_,_,_,rfl,⟨_,rfl,ig⟩,ij,h.pgr hD hF,hF.lf (λj E=>δ E),λO' w2 hK2=>PQ.answer hK2 hp ?_⟩;refine(wD hK2.r E.e7 kI (E.e4.trans hL) hKn).mono ?_;rintro ev w3⟨rfl,kj,pO,hf⟩;exact⟨rfl,_,U,E.abh (ic:=ic) (kj:=kj) hL,dR,pO,hf⟩
  ·refine(y_ h.p hp.he ht hy hw).mono ?_;rintro ev w1⟨rfl,hD,hF⟩;exact⟨_,_,_,rfl,⟨_,rfl,eL 3 (by omega)⟩,ij,h.pgr hD hF,hF.lf (λj E=>δ E),λO' w2 hK2=>PQ.same hK2 E dR (wC hK2.r E.e7 kI Ts (by rw[E.e4];exact hw) hno)⟩
end
section
variable {B:Nat}{C:Dc}{M:Mc}{Y F ym aK n:Nat}{U U' ab4 O':Nat->Prop}{X:Nat->Option Obj}{S S' S0 S1:Ds}{P P':Ps}{R R':Rs}{w w':World}{p:Px}
theorem PQ.Ym (h:PQ B C M Y F ym aK U ab4 X S S0 P R w)(hf:PF (λj=>(U j\/OB R.vR j\/OB R.vT j)\/ab4 j) P P' w w'):RP B C M aK U S0 R w'/\NR C.z C.k (OB R.vL) w':=by
 obtain⟨nb,hz⟩:=h.r.k.rz;have hs:∀ts:List TypeId,(∀t∈ts,t∈Ug)->eh ts w w':=λts h' b t hm ht=>hf.s b t (h' t hm) ht;have hl:∀j,OB R.vL j->w'.heap[j]?=w.heap[j]?:=λj E=>hf.l j (ay h.r.m.l E).1 (h.d3 j E);have hm:jW B w' aK M.rd R:=h.r.m.keep λb J=>by
  rcases J with rfl|J|J|J|J
  ·exact hf.s b 64 (by simp) h.r.m.tg
  ·exact hf.v b (ε (δ (ε J)))
  ·exact hf.v b (ε (δ (δ J)))
  ·exact hl b J
  ·exact hf.s b 167 (by simp) (ay h.r.m.y J).1
 have hK:AD C M U S0 w':=by
  obtain⟨rb,rt,jd,hr⟩:=h.r.k.r;have hs2:=hs [252,253,38,333,291] (by decide);have hz':RZ w' M.rz C.mn C.lw C.hi C.k jd S0.V C.fr:=by
   have G:=hr.hz;have cl:=λj=>bN hs2 (by simp) G.tg j;obtain⟨g,c,e1,o1⟩:=G.cn;obtain⟨g2,c2,rows,e2,o2,r2⟩:=G.cf;refine⟨(cl 2).trans G.m2,(cl 3).trans G.m3,(cl 4).trans G.m4,⟨g,c,(cl 5).trans e1,bK o1 hs2 (by simp)⟩,⟨g2,c2,rows,(cl 6).trans e2,bK o2 hs2 (by simp),λi hi=>?_⟩,cY hs2 (by simp) G.tg,λi hi=>oo (G.rb i hi) (hs [291] (by decide)) (hs2 _ 333 (by simp) (G.rb i hi).tg) hf.z,G.ok,G.ne⟩;obtain⟨h',d,e3,o3⟩:=r2 i hi;refine⟨h',d,e3,aI o3 (λb J=>?_)⟩;obtain rfl:h'=b:=by simpa[Value.ownBlock]using J
   exact hf.l h' (fV o3) (h.n3 g2 c2 i h' _ d e2 ((o2.cellAt i (by omega)).trans e3) hi)
  exact⟨⟨rb,rt,jd,hz',hr.K.same (hs _ (by decide)),hr.g,λg cp e=>hr.r g cp ((η (w:=w) (a:=⟨M.rz,5,none⟩) (hs2 M.rz 252 (by simp) hr.hz.tg)).symm.trans e)⟩,h.r.k.d.keep (λk D=>hf.v k (ε (ε D))) (hs _ (by decide)) hf.z (λ_ h=>h),λk D=>(h.r.k.u k D).blk (hf.v k (ε (ε D)))⟩
 exact⟨⟨hK,hm,h.r.d,h.r.n.keep hz (hs _ (by decide)) (λ_ h=>ε h),σ h.r.lo.1 hf.z,σ h.r.lo.2 hf.z⟩,h.n1.keep h.p.k.dz (hs [241,38] (by decide)) (λ_ h=>ε h)⟩
theorem BS {x y:Int}{u:Bool}{m:Nat}{o:Bl}(hT:mV C S x y u (some m) o S'):m<10:=by
 cases hT with
 |bad _=>omega
 |no i a b a' b' dC n hx dR hl K hn hr=>exact hn
theorem Kr {e:Nat->Addr}(r:Option Nat)(h:∀m,r=some m->m<10):Uz e (wO e r) (XD r):=by
 cases r with
 |none=>exact ig
 |some m=>exact eL m (h m rfl)
theorem Ks (hp:wR p)(h:r9 p n ab4 w)(hn:n<=150):A2 p n 28 #[.pointer (some ⟨p.Y,0,none⟩)] 29 #[.pointer (some ⟨p.aK,0,none⟩)] (Ga p.e) ab4 w:=by
 obtain⟨F,ym,U,S,P,R,h,E,dR⟩:=h;have mC:=h.p.k.fa;by_cases hh:R.T≠[]\/R.L≠[]\/R.ab6≠[]
 ·have hA:Calls prog 28 #[.pointer (some ⟨p.Y,0,none⟩)] w λev w'=>ev=.returned (bc (p.e 5))/\Below w.heap.size w w':=by
   by_cases hL:P.L=[]
   ·by_cases hY:P.ab6=[]
    ·have hT:P.T≠[]:=by
      rcases hh with h'|h'|h'
      ·rw[<- E.e3];exact h'
      ·rw[E.e4]at h';exact absurd hL h'
      ·rw[E.e5]at h';exact absurd hY h'
     obtain⟨o,ho⟩:=List.exists_mem_of_ne_nil _ hT;exact yX h.p hp.he hL hY ⟨o,ho,E.out o (by simp[ho])⟩
    ·refine(yV h.p hp.he hL hY).mono ?_;rintro ev w'⟨rfl,rfl⟩;exact⟨rfl,γ _ _⟩
   ·refine(yU h.p hp.he hL).mono ?_;rintro ev w'⟨rfl,rfl⟩;exact⟨rfl,γ _ _⟩
  refine hA.mono ?_;rintro ev w1⟨rfl,J⟩;exact⟨_,_,_,rfl,⟨_,rfl,eL 5 (by omega)⟩,ij,h.b J,LF.below h.lt J,λO' w2 hK=>PQ.same hK E dR ((yQ hK.r E.e7 hh).mono (by
   rintro ev w3⟨rfl,rfl⟩;exact⟨rfl,γ _ _⟩))⟩
 ·have hT:R.T=[]:=dx λe=>hh (ε e);have hL:R.L=[]:=dx λe=>hh (δ (ε e));have hY:R.ab6=[]:=dx λe=>hh (δ (δ e));have zv:=E.rl;have abo:=E.most;refine(J3 h.p hp.hN hp.he (by have:=E.ab5;omega) (by rw[<- E.e4];exact hL) (by rw[<- E.e5];exact hY) (by rw[<- E.e3,hT];rintro⟨o,ho,_⟩;cases ho)).mono ?_;rintro ev w1⟨rfl,S',hG,hC,hD,hF⟩;obtain⟨f,f0,f1,f2,f3⟩:=mG hG mC;have fl:=f2 P.R.length (ζ _);rw[f1]at fl;obtain⟨hR,hN1⟩:=h.Ym hF;have hK:CQ p.B p.C p.M p.Y p.aK U ab4 p.X S' S R w1:=⟨hD,hC,hR,h.o,hN1,h.p.hB⟩;refine⟨_,_,_,rfl,⟨_,rfl,ig⟩,Kh hp.hN,hK,hF.lf (λj E=>δ E),λO' w2 hK2=>?_⟩;refine(FL hK2.r E.e7 hT hL hY (by rw[E.e2];omega) mC (by have:=E.ab5;omega) (by omega) (by rw[E.e2];exact hG)).mono ?_;rintro ev w3⟨rfl,U',pO,hf⟩;exact⟨rfl,δ ⟨U',S',_,hK2.ref hp.hN pO hf,rfl,rfl,hL,by have:=E.ab5;have:=fl.2.1;omega,fl.2.2.trans dR⟩,hf.lf hK2.r hK2.bo⟩
theorem Kt (hp:wR p)(h:r9 p n ab4 w)(hn:n<=150)(x y:Int)(u:Bool):A2 p n 30 #[.pointer (some ⟨p.C.d,0,none⟩),.int .i64 x,.int .i64 y,.bool u] 31 #[.pointer (some ⟨p.M.rd,0,none⟩),.int .i64 x,.int .i64 y,.bool u] (Yc p.e) ab4 w:=by
 obtain⟨F,ym,U,S,P,R,h,E,dR⟩:=h;have mC:=h.p.k.fa;have N5:S.ab5<=1000:=by have:=E.ab5;omega
 refine(h.p.k.take hp.hN hp.he.Ro x y u).mono ?_;rintro ev w1⟨r,o,S',rfl,hT,hD,hU⟩;obtain⟨um,hF⟩:=h.p.turn hD hU;have wA:=um.k.fa;have hout:∀q,di p.C S q->di p.C S' q:=by
  cases r with
  |none=>exact(mL mC hT).2.2
  |some m=>exact λq=>BK hT
 have hw2:W2 o.1 o.2:=by
  cases r with
  |none=>exact iX hD (mL mC hT).2.1
  |some m=>rw[mh hT];exact Lb
 refine⟨_,_,_,rfl,⟨o,_,_,rfl,rfl,Kr r (λm hm=>by subst hm;exact BS hT),hw2⟩,ij,h.pgr um hF,hF.lf (λj E=>δ E),λO' w2 hK=>PQ.answer hK hp ?_⟩;refine(iW hK.r.k hK.r.lo.1 mC wA N5 hp.fr hT).mono ?_;rintro ev w3⟨rfl,hA,K⟩;obtain⟨pO,hf⟩:=hK.r.dep hA K (λ_ h=>ε h);exact⟨rfl,R,U,E.dep (by have:=E.ab5;have:=qi hT;omega) hout,hT.wl.trans dR,pO,hf⟩
theorem BU (hp:wR p)(h:wy p n ab4 w)(hn:n<=150)(x y:Int)(u:Bool):A2 p n 30 #[.pointer (some ⟨p.C.d,0,none⟩),.int .i64 x,.int .i64 y,.bool u] 31 #[.pointer (some ⟨p.M.rd,0,none⟩),.int .i64 x,.int .i64 y,.bool u] (Yc p.e) ab4 w:=by
 obtain⟨U,S,R,h,G,O,h3,h4,dR⟩:=h;have mC:=h.k.fa;refine(h.k.take hp.hN hp.he.Ro x y u).mono ?_;rintro ev w1⟨r,o,S',rfl,hT,hD,hU⟩;have wA:=hD.fa;have hw2:W2 o.1 o.2:=by
  cases r with
  |none=>exact iX hD (mL mC hT).2.1
  |some m=>rw[mh hT];exact Lb
 refine⟨_,_,_,rfl,⟨o,_,_,rfl,rfl,Kr r (λm hm=>by subst hm;exact BS hT),hw2⟩,Kh hp.hN,h.pgr hD hU,h.Ti hU,λO' w2 hK=>?_⟩;refine(iW hK.r.k hK.r.lo.1 mC wA (by omega) hp.fr hT).mono ?_;rintro ev w3⟨rfl,hA,K⟩;obtain⟨pO,hf⟩:=hK.r.dep hA K (λ_ h=>ε h);exact⟨rfl,δ ⟨U,S',R,hK.ref hp.hN pO hf,G,O,h3,by have:=qi hT;omega,hT.wl.trans dR⟩,hf.lf hK.r hK.bo⟩
theorem CQ.same (h:CQ p.B p.C p.M p.Y p.aK U ab4 p.X S S R w)(G:R.cl=true)(O:R.R=[])(h3:R.L=[])(h4:S.ab5<=n+20)(hw:S.ws.length=2){aca:FuncId}{a:Array Value}{v:Value}(hA:Calls prog aca a w λev w3=>ev=.returned v/\Below w.heap.size w w3):Calls prog aca a w λev w3=>ev=.returned v/\St p (n+1) ab4 w3/\LF ab4 w w3 :=
 hA.mono (by
  rintro ev w3⟨rfl,J⟩;exact⟨rfl,δ ⟨U,S,R,h.b J,G,O,h3,by omega,hw⟩,LF.below h.lt J⟩)
theorem km (hp:wR p)(h:wy p n ab4 w){F1 F2:FuncId}{a1 a2:Array Value}{v1 v2:Value}{Φ : Value->Value->Prop}(yx : Φ v1 v2)(G:∀W,CL W p.Y->dM W p.e->Calls prog F1 a1 W λev w'=>ev=.returned v1/\Below W.heap.size W w')(O:∀U S R W,RP p.B p.C p.M p.aK U S R W->R.cl=true->Calls prog F2 a2 W λev w'=>ev=.returned v2/\Below W.heap.size W w'):A2 p n F1 a1 F2 a2 Φ ab4 w:=by
 obtain⟨U,S,R,h,g1,g2,g3,g4,dR⟩:=h;refine(G w h.c (hp.he.below h.low)).mono ?_;rintro ev w1⟨rfl,J⟩;exact⟨_,_,_,rfl,yx,Kh hp.hN,h.b J,LF.below h.lt J,λO' w2 hK=>CQ.same hK g1 g2 g3 g4 dR (O U S R w2 hK.r g1)⟩
theorem mi {aca:FuncId}{a:Array Value}{v:Value}{w:World}(h:Calls prog aca a w λev w'=>ev=.returned v/\w'=w):Calls prog aca a w λev w'=>ev=.returned v/\Below w.heap.size w w':=h.mono (by
 rintro ev w'⟨rfl,rfl⟩;exact⟨rfl,γ _ _⟩)
theorem Tt (hp:wR p)(h:St p n ab4 w)(hn:n<=150)(x y:Int):A2 p n 15 #[.pointer (some ⟨p.Y,0,none⟩),.int .i64 x,.int .i64 y] 23 #[.pointer (some ⟨p.aK,0,none⟩),.int .i64 x,.int .i64 y] (Yc p.e) ab4 w:=by
 rcases h with h|h
 ·exact N3 hp h hn x y
 ·exact km hp h ⟨(0,0),_,_,rfl,rfl,eL 3 (by omega),Lb⟩ (λW hC he=>J4 hC he x y) (λU S R W hR K=>wh hR K x y)
theorem BZ (hp:wR p)(h:St p n ab4 w)(hn:n<=150)(x:Int){o:Bl}(hw2:W2 o.1 o.2):A2 p n 19 #[.pointer (some ⟨p.Y,0,none⟩),.int .i64 x,.agg #[.int .i64 o.1,.int .i64 o.2]] 24 #[.pointer (some ⟨p.aK,0,none⟩),.int .i64 x,.agg #[.int .i64 o.1,.int .i64 o.2]] (Ga p.e) ab4 w:=by
 rcases h with h|h
 ·exact N9 hp h hn x hw2
 ·exact km hp h ⟨_,rfl,eL 3 (by omega)⟩ (λW hC he=>J5 hC he x o) (λU S R W hR K=>wj hR K x o)
theorem N_ (hp:wR p)(h:St p n ab4 w)(hn:n<=150)(t:Int)(ht:(Lit.int .i64 t).wf=true):A2 p n 20 #[.pointer (some ⟨p.Y,0,none⟩),.int .i64 t] 25 #[.pointer (some ⟨p.aK,0,none⟩),.int .i64 t] (RdV p.e) ab4 w:=by
 rcases h with h|h
 ·exact Kq hp h hn t ht
 ·exact km hp h ⟨(0,0),false,_,_,rfl,rfl,eL 3 (by omega),Lb⟩ (λW hC he=>FT hC he t) (λU S R W hR K=>tj hR K t)
theorem Ku (hp:wR p)(h:St p n ab4 w)(hn:n<=150)(t:Int)(ht:(Lit.int .i64 t).wf=true):A2 p n 26 #[.pointer (some ⟨p.Y,0,none⟩),.int .i64 t] 27 #[.pointer (some ⟨p.aK,0,none⟩),.int .i64 t] (Ga p.e) ab4 w:=by
 rcases h with h|h
 ·exact Gc hp h hn t ht
 ·exact km hp h ⟨_,rfl,eL 3 (by omega)⟩ (λW hC he=>BD hC he t) (λU S R W hR K=>mi (r6 hR K t))
theorem Oa (hp:wR p)(h:St p n ab4 w)(hn:n<=150):A2 p n 28 #[.pointer (some ⟨p.Y,0,none⟩)] 29 #[.pointer (some ⟨p.aK,0,none⟩)] (Ga p.e) ab4 w:=by
 rcases h with h|h
 ·exact Ks hp h hn
 ·exact km hp h ⟨_,rfl,eL 3 (by omega)⟩ (λW hC he=>mi (FO hC he)) (λU S R W hR K=>mi (tq hR K))
theorem Oc (hp:wR p)(h:St p n ab4 w)(hn:n<=150)(x y:Int)(u:Bool):A2 p n 30 #[.pointer (some ⟨p.C.d,0,none⟩),.int .i64 x,.int .i64 y,.bool u] 31 #[.pointer (some ⟨p.M.rd,0,none⟩),.int .i64 x,.int .i64 y,.bool u] (Yc p.e) ab4 w:=by
 rcases h with h|h
 ·exact Kt hp h hn x y u
 ·exact BU hp h hn x y u
theorem Gd (h:St p n ab4 w)(hn:n<=150):Calls prog 22 #[.pointer (some ⟨p.C.d,0,none⟩),.pointer (some ⟨p.M.rd,0,none⟩)] w λev w'=>ev=.returned (.int .i64 1)/\Below w.heap.size w w':=by
 rcases h with⟨F,ym,U,S,P,R,h,E,dR⟩|⟨U,S,R,h,G,O,h3,h4,dR⟩
 ·exact kL h.qd (by have:=E.ab5;omega) (by omega)
 ·exact kL h.qd (by omega) (by omega)
end
theorem ints_at {w:World}{B k cp j:Nat}{p:Option Addr}{l:List Nat}(h:w.ownsRow B 3 1 (.slice p k cp) k (dX l))(hl:l.length=k)(E:j<k):∃g x,p=some ⟨g,0,none⟩/\l[j]?=some x/\w.cell? ⟨g,j,none⟩=some (.int .i64 (x:Int)):=by
 obtain⟨g,cap,e,_⟩:=h.form (by omega);simp only[ψ]at e;obtain⟨rfl,_,rfl⟩:=e;have hx:l[j]?=some l[j]:=ξ (by omega);refine⟨g,l[j],rfl,hx,(h.cellAt j (by omega)).trans ?_⟩;simp[dX,hx]
theorem eC {w:World}{B1 B2 n c1 c2:Nat}{p1 p2:Option Addr}{L:List Nat}(G:w.ownsRow B1 3 1 (.slice p1 n c1) n (dX L))(O:w.ownsRow B2 3 1 (.slice p2 n c2) n (dX L))(hL:L.length=n)(hn:n<=1000):
  Calls prog 32 #[.slice p1 n c1,.slice p2 n c2] w λev w'=>ev=.returned (.bool true)/\Below w.heap.size w w':=by
 have H1:=I G;have H2:=I O;have HL:=I hL;clear G O hL;go_enter func32,ntmps32;go_wp2_with fail;go_loopw [5] (λs wr=>∃j:Nat,s=.int .i64 j/\j<=n/\Hid (Below w.heap.size w wr)) (λs _=>n-(intOf s).toNat)
 case atStart=>exact⟨0,rfl,Γ _,γ _ _⟩
 case round =>
  obtain⟨j,rfl,E,HB⟩:=hrel;have Cn:(0:Int)<=j:=by omega
  have hwj:IntKind.i64.wrap ((j:Int)+1)=(j:Int)+1:=aB _ (by omega);by_cases pS:j<n
  ·have qm:(j:Int)<n:=by omega
   obtain⟨g1,x1,rfl,e1,y1⟩:=ints_at (aN (Z H1) (Z HB)) (Z HL) pS;obtain⟨g2,x2,rfl,e2,y2⟩:=ints_at (aN (Z H2) (Z HB)) (Z HL) pS;rw[e1]at e2;obtain rfl:=ah e2;have hd:decide ((x1:Int)=x1)=true:=by simp
   clear e1 e2;go_wp2_with fail;go_quiet (fail);go_wp2_with fail;go_roundw;case rel=>exact⟨j+1,by go_num,by omega,iB (Z HB) _⟩
   case measure=>simp[intOf];omega
  ·obtain rfl:j=n:=by omega
   have kn:¬(j:Int)<j:=by omega
   go_wp2_with fail;go_ret;exact⟨rfl,Z HB⟩
section
variable {n:Nat}{ab4:Nat->Prop}{w:World}{p:Px}
theorem Od (h:St p n ab4 w)(_hn:n<=150):∃(k:Nat) (L:List Nat) (p2 p4:Option Addr) (c2 c4:Nat),L.length<=8/\∀W,Below w.heap.size w W ->
  W.cell? ⟨p.aK,2,none⟩=some (.slice p2 k c2)/\W.cell? ⟨p.aK,4,none⟩=some (.slice p4 L.length c4) /\
  (Calls prog 18 #[.pointer (some ⟨p.Y,0,none⟩)] W λev w'=>ev=.returned (.int .i64 k)/\w'=W) /\
  (Calls prog 17 #[.pointer (some ⟨p.Y,0,none⟩)] W λev w'=>∃p7 c7,ev=.returned (.slice p7 L.length c7)/\w'.ownsRow W.heap.size 3 1 (.slice p7 L.length c7) L.length (dX L)/\Below W.heap.size W w') /\
  W.ownsRow p.B 3 1 (.slice p4 L.length c4) L.length (dX L):=by
 rcases h with⟨F,ym,U,S,P,R,h,E,dR⟩|⟨U,S,R,h,G,O,h3,h4,dR⟩
 ·obtain⟨p2,c2,v2⟩:=aX h.r.m.r;obtain⟨p4,c4,v4⟩:=aX h.r.m.l;rw[E.e2]at v2;rw[E.e4]at v4;refine⟨P.R.length,P.L,p2,p4,c2,c4,E.ln,λW hW=>?_⟩;have J:=h.b hW;have r4:=J.r.m.l;rw[v4,E.e4]at r4;refine⟨J.r.m.c2.trans (by rw[v2]),J.r.m.c4.trans (by rw[v4]),rO J.p.m,(rP J.p.m (by have:=E.ln;omega)).mono ?_,r4⟩;rintro ev w'⟨v',rfl,ho,hB⟩;obtain⟨p7,c7,rfl⟩:=aX ho;exact⟨p7,c7,rfl,ho,hB⟩
 ·obtain⟨p2,c2,v2⟩:=aX h.r.m.r;obtain⟨p4,c4,v4⟩:=aX h.r.m.l;rw[O]at v2;rw[h3]at v4;refine⟨0,[],p2,p4,c2,c4,by simp,λW hW=>?_⟩;have J:=h.b hW;have r4:=J.r.m.l;rw[v4,h3]at r4;refine⟨J.r.m.c2.trans (by rw[v2];rfl),J.r.m.c4.trans (by rw[v4]),yY J.c,(yZ J.c).mono ?_,r4⟩;rintro ev w'⟨rfl,rfl⟩;exact⟨none,0,rfl,Ξ _ _ _ _,γ _ _⟩
theorem jV (h:St p n ab4 w)(hn:n<=150):∃(k:Nat) (L:List Nat) (p2 p4:Option Addr) (c2 c4:Nat),
  Hid (Calls prog 18 #[.pointer (some ⟨p.Y,0,none⟩)] w.drew λev w'=>ev=.returned (.int .i64 k)/\w'=w.drew) /\
  Hid (Calls prog 17 #[.pointer (some ⟨p.Y,0,none⟩)] w.drew λev w'=>∃p7 c7,ev=.returned (.slice p7 L.length c7)/\w'.ownsRow w.drew.heap.size 3 1 (.slice p7 L.length c7) L.length (dX L)/\Below w.drew.heap.size w.drew w') /\
  Hid (w.drew.ownsRow p.B 3 1 (.slice p4 L.length c4) L.length (dX L)) /\
  (w.drew.cell? ⟨p.aK,2,none⟩=some (.slice p2 k c2)/\w.drew.cell? ⟨p.aK,4,none⟩=some (.slice p4 L.length c4)) /\
  Hid (∀W',Below w.drew.heap.size w.drew W'->W'.cell? ⟨p.aK,2,none⟩=some (.slice p2 k c2)/\W'.cell? ⟨p.aK,4,none⟩=some (.slice p4 L.length c4)) /\
  w.cell? ⟨p.aK,2,none⟩=some (.slice p2 k c2)/\w.cell? ⟨p.aK,4,none⟩=some (.slice p4 L.length c4)/\Hid (L.length<=1000):=by
 obtain⟨k,L,p2,p4,c2,c4,hL,PX⟩:=Od h hn;obtain⟨u1,u2,u3,u4,u5⟩:=PX w.drew (dw w);exact⟨k,L,p2,p4,c2,c4,u3,u4,u5,⟨u1,u2⟩,λW' hW=>⟨(PX W' (bW (dw w) hW)).1,(PX W' (bW (dw w) hW)).2.1⟩,(PX w (γ _ _)).1,(PX w (γ _ _)).2.1,show L.length<=1000 by omega⟩
end
theorem Yn {w:World}{r:Nat}{x y:Int}(h:Rx w r (.int .i64 x) (.int .i64 y))(x' y':Int):Rx ((w.setCell ⟨r,0,none⟩ (.int .i64 x')).setCell ⟨r,1,none⟩ (.int .i64 y')) r (.int .i64 x') (.int .i64 y'):=by
 obtain⟨r0,r1,bQ,rt⟩:=h;obtain⟨t0,t1⟩:=aW r0 r1 (.int .i64 x') (.int .i64 y');exact⟨t0,t1,λj=>by rw[Ψ,Ψ];exact bQ j,(rt.set _ _).set _ _⟩
theorem Yo (w:World)(x y:Int):Rx (w.alloc (cB x y)) w.heap.size (.int .i64 x) (.int .i64 y):=by
 have q':=θ w #[.int .i64 x,.int .i64 y] 34;exact⟨by simp[q' 0],by simp[q' 1],λo=>aG _ _ w.heap.size o rfl,bB _ _ _⟩
section
variable {y:Int}{B:Nat}{C:Dc}{M:Mc}{Y F ym aK n:Nat}{ab7 U U' ab4 O':Nat->Prop}{X:Nat->Option Obj}{S S' S0 S1:Ds}{P P':Ps}{R R':Rs}{w w' w2 w3:World}{p:Px}
theorem AD.pf (h:AD C M U S w)(hf:PF ab7 P P' w w')(hU:∀j,U j->ab7 j)(hl:∀j,¬OB P.vl j):AD C M U S w':=by
 obtain⟨rb,rt,jd,hr⟩:=h.r;have hs:∀ts:List TypeId,(∀t∈ts,t∈Ug)->eh ts w w':=λts h' b t hm ht=>hf.s b t (h' t hm) ht;have hs2:=hs [252,253,38,333,291] (by decide);have hz':RZ w' M.rz C.mn C.lw C.hi C.k jd S.V C.fr:=by
  have G:=hr.hz;have cl:=λj=>bN hs2 (by simp) G.tg j;obtain⟨g,c,e1,o1⟩:=G.cn;obtain⟨g2,c2,rows,e2,o2,r2⟩:=G.cf;refine⟨(cl 2).trans G.m2,(cl 3).trans G.m3,(cl 4).trans G.m4,⟨g,c,(cl 5).trans e1,bK o1 hs2 (by simp)⟩,⟨g2,c2,rows,(cl 6).trans e2,bK o2 hs2 (by simp),λi hi=>?_⟩,cY hs2 (by simp) G.tg,λi hi=>oo (G.rb i hi) (hs [291] (by decide)) (hs2 _ 333 (by simp) (G.rb i hi).tg) hf.z,G.ok,G.ne⟩;obtain⟨h',d,e3,o3⟩:=r2 i hi;refine⟨h',d,e3,aI o3 (λb J=>?_)⟩;obtain rfl:h'=b:=by simpa[Value.ownBlock]using J
  exact hf.l h' (fV o3) (hl h')
 exact⟨⟨rb,rt,jd,hz',hr.K.same (hs _ (by decide)),hr.g,λg cp e=>hr.r g cp ((η (w:=w) (a:=⟨M.rz,5,none⟩) (hs2 M.rz 252 (by simp) hr.hz.tg)).symm.trans e)⟩,h.d.keep (λk D=>hf.v k (hU k D)) (hs _ (by decide)) hf.z (λ_ h=>h),λk D=>(h.u k D).blk (hf.v k (hU k D))⟩
theorem Yp (h:QK C M (λ_=>False) (λ_=>False) X S S.ms w):AD C M (λ_=>False) S w:=⟨h.r,h.d,λ_k D=>D.elim⟩
theorem Qp (h:QK C M (λ_=>False) (λ_=>False) X S S.ms w):DK C (λ_=>False) X S w:=DQ.less h.q (λ_j E=>E.elim)
theorem Qq (h:DK C ab7 X S w)(O:AD C M U S w)(hV:∀j,U j->ab7 j):QD C.w0 C.N0 X C.c C.z C.d C.g M.rc M.rz M.rd M.J C.sz C.m C.mn C.lw C.hi C.k C.nb C.fm C.F C.fr U (λ_=>False) S.ab5 S.Q S.V S.ws S.pl S.ct S.Q S.V (HH S.ct S.ws) (PP S.ct S.pl) w :=
 ⟨DQ.less h (λj E=>by
  rcases E with E|E
  ·exact hV j E
  ·exact E.elim),O.r,O.d⟩
theorem Kv (h:DK C (λ_=>False) X S w)(hN:C.w0.heap.size<=C.N0)(K:bD R6 C.N0 w w')(hu:∀j,U' j->Tag w' j 34/\w.heap.size<=j):DK C U' X S w':=SF h hN K (λj E=>δ (hu j E))
theorem Kw {l:List Bl}{vr vR:Value}(hp:wR p)(hD:PD p.B p.C (λ_=>False) p.X p.Y F ym S' {pG n with R:=l,vr:=vr} w2)(hR:RP p.B p.C p.M p.aK U' S' {Bz n with R:=l,vR:=vR} w3)(K:bD R6 p.C.N0 w2 w3)(hu:∀j,U' j->w2.heap.size<=j)(hv:∀j,OB vR j->w2.heap.size<=j)(hT:yP p.C y S l S')(hF:FA p.C S)(hQ:S.ab5=0)(dR:S.ws.length=2)(hn:n<=16)(hl:l.length=n):St p 0 (OB (.slice none 0 0)) w3:=by
 obtain⟨t1,t2,t3,t4⟩:=NZ hT hF;have DI:∀κ : TypeId,some κ∈R6->κ∈AK:=λκ hm=>by
  simp only[R6,ae,τ,aR,dg]at hm;rcases hm with rfl|rfl|rfl|rfl|rfl|rfl|rfl<;>decide
 have RM:PD p.B p.C (λj=>(U' j\/OB vR j\/OB (.slice none 0 0) j)\/OB (.slice none 0 0) j) p.X p.Y F ym S' {pG n with R:=l,vr:=vr} w3:=by
  refine hD.iV (L:=λ_=>False) ((bD.kp6 K).mono λb _ J=>?_) (λ_ _ _ _ _ _ _ _ h=>h) (λ_ h=>h.elim) (λj E=>?_)
  ·obtain⟨G,κ,O,h3⟩:=J;exact δ ⟨σ hp.hN G,ε ⟨κ,O,DI κ h3⟩⟩
  ·rcases E with(E|E|E)|E
   ·exact⟨hR.k.u j E,δ (hu j E)⟩
   ·exact⟨(ay hR.m.r E).1,δ (hv j E)⟩
   ·cases E
   ·cases E
 have hlen:S'.ws.length=2:=by
  obtain⟨f,f0,f1,f2,f3⟩:=mH hT hF;have:=(f2 l.length (ζ _)).2.2;rw[f1]at this;exact this.trans dR
 have hQ':S'.ab5=0:=(yP.ab5 hT).trans hQ;refine ε ⟨F,ym,U',S',{pG n with R:=l,vr:=vr},{Bz n with R:=l,vR:=vR},⟨RM,hR,λj E=>(by cases E),λ_ _ _ _ _ _ _ _ h=>(by cases h),λ_ _ _ _ _ _ _ _ _ h=>(by cases h),λj E=>(by cases E)⟩,⟨rfl,rfl,rfl,rfl,rfl,rfl,rfl,hn,by show l.length<=n;omega,by omega,ζ _,ζ _,Γ _,λt ht=>(by cases ht),λt ht=>(by cases ht),dm,dm,?_,λo ho=>?_,ζ _,ζ _⟩,hlen⟩
 ·show(l++([]++[])).Nodup;simpa using t1
 ·refine t2 o ?_;have:o∈l++([]++[]):=ho;simpa using this
end
end Pl
end Go.Proofs.YtcbmfakjfoggaaaGreatDoor
