/- H39 -/
import Derived.Test.YtcbmfakjfoggaaaGreatDoorA0
import Derived.Test.YtcbmfakjfoggaaaGreatDoorH35
import Derived.Test.YtcbmfakjfoggaaaGreatDoorH34
set_option maxHeartbeats 0
set_option maxRecDepth 100000
namespace Go.Proofs.YtcbmfakjfoggaaaGreatDoor
open _root_.Go.Proofs.Tryz Go.RowKit Go.Maps
namespace Pl
open Fr Bd Zn Dz Sb Mg Rd
section
variable {B:Nat}{C:Dc}{M:Mc}{aK N:Nat}{U U':Nat->Prop}{S S':Ds}{R R':Rs}{w w1 w':World}{x y t:Int}{o:Bl}
theorem wC (h:RP B C M aK U S R w)(K:R.cl=false)(kI:R.L.length<=8)(hY:R.ab6.length<1000)(ht:¬Wt R.L t)(hy:∀p∈R.ab6,(p.1:Int)≠t):Calls prog 27 #[.pointer (some ⟨aK,0,none⟩),.int .i64 t] w λev w'=>ev=.returned (.int .i64 4)/\Below w.heap.size w w':=by
 have c7:=h.m.c7;rw[K]at c7;have c4:=h.m.c4;have kS:=I (jv h.m.l rfl (by omega) t);obtain⟨pl,cl,hv⟩:=aX h.m.l;rw[hv]at c4 kS;have Ko:Hid (∀W,RP B C M aK U S R W->Calls prog 94 #[.pointer (some ⟨aK,0,none⟩),.int .i64 t] W λev w'=>ev=.returned (.tuple #[bz 0 0,.bool false])/\Below W.heap.size W w'):=λW hW=>qj hW.m (by omega) hy;have dD:=I h;have mW:=I ht;clear h K hv kI ht hy hY;go_enter func27,ntmps27;go_wp2_with fail;refine(Z kS).mono ?_;rintro ev w1⟨rfl,⟨ab9,x,Mm,hL,hx,hK,rfl⟩|⟨_,rfl⟩⟩;case inl=>exact absurd ⟨x,by rw[hL];simp,hx⟩ (Z mW)
 have xQ:=I ((Z Ko) w1 (Z dD));unfold bz at*;clear kS Ko mW;go_wp2_with fail;refine(Z xQ).mono ?_;rintro ev w2⟨rfl,b2⟩;have tu:=I (bW b2 (χ (γ w2.heap.size w2) (cB 0 0)));clear xQ b2 dD c4 c7;go_upto_region 8 with(fail);generalize w2.alloc (cB 0 0)=W3 at*;go_wp2;go_ret;exact⟨rfl,Z tu⟩
theorem wD (h:RP B C M aK U S R w)(K:R.cl=false)(kI:R.L.length<=8){tt:Nat}{ab9 Mm:List Nat}(hL:R.L=ab9++tt::Mm)(hK:tt∉ab9):Calls prog 27 #[.pointer (some ⟨aK,0,none⟩),.int .i64 tt] w λev w'=>ev=.returned (.int .i64 0)/\∃kj,RP B C M aK U S {R with L:=ab9++Mm,vL:=kj} w'/\fX C.N0 aK R {R with L:=ab9++Mm,vL:=kj} U U w w':=by
 have c7:=h.m.c7;rw[K]at c7;have c4:=h.m.c4;have kS:=I (jv h.m.l rfl (by omega) tt);have hlen:R.L.length=ab9.length+(Mm.length+1):=by rw[hL];simp
 obtain⟨b,c,hv,_⟩:=h.m.l.form (by omega);have r4:=h.m.l;have f4:=h.m.fz 4;have hlt:=h.m.tg.lt;rw[hv,hlen]at c4 r4;rw[hv,hlen]at kS;rw[hL]at r4;have UA:=I (mY r4 (by omega));have dD:=I h;have NW:=I hL;have HKN:=I hK;clear h K hv kI r4 hlen hL hK;go_enter func27,ntmps27;go_wp2_with fail;refine(Z kS).mono ?_;rintro ev w1⟨rfl,⟨K',x,Mm',hL',hx,hK',rfl⟩|⟨hn,_⟩⟩;case inr=>exact absurd ⟨tt,by rw[Z NW];simp,rfl⟩ hn
 have jG:K'.length=ab9.length:=by
  have e:=Z NW;rw[hL']at e;obtain rfl:x=tt:=by omega
  rcases eX K'.length ab9.length with h|h|h
  ·have e1:(K'++x::Mm')[K'.length]?=some x:=by simp
   rw[e,ar h]at e1;exact absurd (aH e1) (Z HKN)
  ·exact h
  ·have e1:(ab9++x::Mm)[ab9.length]?=some x:=by simp
   rw[<- e,ar h]at e1;exact absurd rfl (hK' x (aH e1))
 rw[jG];have d1:decide ((ab9.length:Int)>=0)=true:=by simp
 have d2:decide ((0:Int)<=(ab9.length:Int))=true:=by simp
 clear kS hL' hx hK' jG NW HKN;go_wp2_with fail;refine(Z UA).mono ?_;rintro ev w2⟨v2,rfl,o2,b2⟩;obtain⟨p2,k2,rfl⟩:=aX o2;obtain⟨H2,F2⟩:=(Z dD).XK b2 o2;have e4:=(b2.cell (p:=⟨aK,4,none⟩) hlt).trans c4;have g4:=(b2.frozen (p:=⟨aK,4,none⟩) hlt).trans f4;have iu:=I H2;have eA:=I F2;clear UA o2 b2 H2 F2 dD c4 f4 c7 d1 d2;generalize(ab9++Mm).length=n2 at*;go_wp2;go_ret;exact⟨rfl,_,Z iu,Z eA⟩
theorem zn (h:RP B C M aK U S R w)(K:R.cl=false)(kI:R.L.length<=8)(hY:R.ab6.length<1000)(BP:R.T.length<1000){tt:Nat}(ht:¬Wt R.L (tt:Int)){ab9 Mm:List (Nat×Bl)}(Yl:R.ab6=ab9++(tt,o)::Mm)(hK:∀p∈ab9,(p.1:Int)≠tt){r:Int}{Φ : Rs->(Nat->Prop)->Ds->Prop}
  (hG:∀lq ie W,RP B C M aK U S {R with ab6:=ab9++Mm,T:=R.T++[o],vY:=lq,vT:=ie} W->Calls prog 24 #[.pointer (some ⟨aK,0,none⟩),.int .i64 0,.agg #[.int .i64 o.1,.int .i64 o.2]] W λev w'=>ev=.returned (.int .i64 r)/\∃R2 U2 S2,Φ R2 U2 S2/\RP B C M aK U2 S2 R2 w'/\fX C.N0 aK {R with ab6:=ab9++Mm,T:=R.T++[o],vY:=lq,vT:=ie} R2 U U2 W w'):
  Calls prog 27 #[.pointer (some ⟨aK,0,none⟩),.int .i64 tt] w λev w'=>ev=.returned (.int .i64 r)/\∃R2 U2 S2,Φ R2 U2 S2/\RP B C M aK U2 S2 R2 w'/\fX C.N0 aK R R2 U U2 w w':=by
 have c7:=h.m.c7;rw[K]at c7;have c4:=h.m.c4;have kS:=I (jv h.m.l rfl (by omega) tt);obtain⟨pl,cl,hv⟩:=aX h.m.l;rw[hv]at c4 kS;have Ko:Hid (∀W,RP B C M aK U S R W->Calls prog 94 #[.pointer (some ⟨aK,0,none⟩),.int .i64 tt] W λev w'=>ev=.returned (.tuple #[bz o.1 o.2,.bool true])/\∃lq ie,RP B C M aK U S {R with ab6:=ab9++Mm,T:=R.T++[o],vY:=lq,vT:=ie} w'/\fX C.N0 aK R {R with ab6:=ab9++Mm,T:=R.T++[o],vY:=lq,vT:=ie} U U W w'):=λW hW=>(se hW.m hW.lo.2 (by omega) (by omega) Yl hK).mono (by
  rintro ev w'⟨rfl,lq,ie,hm,D,G,O⟩;exact⟨rfl,lq,ie,hW.own hm (D.mono λb _ J=>by
   rcases J with J|J
   ·exact ε J
   ·exact δ (δ (ε J))) (λ_ h=>ε h) G (λ_ h=>ε h) (λj E=>δ (O j E))⟩)
 have dD:=I h;have mW:=I ht;have HG:=I hG;clear h K hv kI ht Yl hK hY BP hG;obtain⟨oN,oA⟩:=o;unfold bz at*;go_enter func27,ntmps27;go_wp2_with fail;refine(Z kS).mono ?_;rintro ev w1⟨rfl,⟨K',x,Mm',hL,hx,hK,rfl⟩|⟨_,rfl⟩⟩;case inl=>exact absurd ⟨x,by rw[hL];simp,hx⟩ (Z mW)
 have xQ:=I ((Z Ko) w1 (Z dD));clear kS Ko mW;go_wp2_with fail;refine(Z xQ).mono ?_;rintro ev w2⟨rfl,lq,ie,H2,F2⟩;have F3:=χ (γ w2.heap.size w2) (cB oN oA);have q':=θ w2 #[.int .i64 oN,.int .i64 oA] 34;have q0:=q' 0;have q1:=q' 1;simp only[Δ,υ,ω]at q0 q1;have fY:=I (F2.trans (fX.below F3));have HG3:=I ((Z HG) lq ie _ (H2.b F3));clear xQ F2 H2 F3 q' dD HG c4 c7;go_upto_region 8 with(fail);generalize w2.alloc (cB oN oA)=W3 at*;go_wp2_with fail;refine(Z HG3).mono ?_;rintro ev w4⟨rfl,R2,U2,S2,yx,H4,F4⟩;have HP:=I yx;have Fo:=I H4;have jI:=I ((Z fY).trans F4);clear HG3 yx H4 F4 fY q0 q1;go_wp2;go_ret;exact⟨rfl,R2,U2,S2,Z HP,Z Fo,Z jI⟩
end
end Pl
end Go.Proofs.YtcbmfakjfoggaaaGreatDoor
