/- H39 -/
import Derived.Test.YtcbmfakjfoggaaaGreatDoorA0
import Derived.Test.YtcbmfakjfoggaaaGreatDoorH35
set_option maxHeartbeats 0
set_option maxRecDepth 100000
namespace Go.Proofs.YtcbmfakjfoggaaaGreatDoor
open _root_.Go.Proofs.Tryz Go.RowKit Go.Maps
namespace Pl
open Fr Bd Zn Dz Sb Mg Rd
section
variable {B:Nat}{C:Dc}{M:Mc}{aK:Nat}{U:Nat->Prop}{S:Ds}{R:Rs}{w w1 w':World}{x:Int}
theorem wD (h:RP B C M aK U S R w)(K:R.cl=false)(kI:R.L.length<=8){tt:Nat}{ab9 Mm:List Nat}(hL:R.L=ab9++tt::Mm)(hK:tt∉ab9):Calls prog 27 #[.pointer (some ⟨aK,0,none⟩),.int .i64 tt] w λev w'=>ev=.returned (.int .i64 0)/\∃kj,RP B C M aK U S {R with L:=ab9++Mm,vL:=kj} w'/\fX C.N0 aK R {R with L:=ab9++Mm,vL:=kj} U U w w':=by
 have c7:=h.m.c7;rw[K]at c7;have c4:=h.m.c4;have kS:=I (jv h.m.l rfl (by omega) tt);have hlen:R.L.length=ab9.length+(Mm.length+1):=by rw[hL];simp
 obtain⟨b,c,hv,_⟩:=h.m.l.form (by omega);have r4:=h.m.l;have f4:=h.m.fz 4;have hlt:=h.m.tg.lt;rw[hv,hlen]at c4 r4;rw[hv,hlen]at kS;rw[hL]at r4;have UA:=I (mY r4 (by omega));have dD:=I h;have NW:=I hL;have HKN:=I hK;clear h K hv kI r4 hlen hL hK;go_enter func27,ntmps27;go_wp2_with fail;refine(Z kS).mono ?_;rintro ev w1⟨rfl,⟨K',x,Mm',hL',hx,hK',rfl⟩|⟨hn,_⟩⟩;case inr=>exact absurd ⟨tt,by rw[Z NW];simp,rfl⟩ hn
 have jG:K'.length=ab9.length:=by
  have e:=Z NW;rw[hL']at e;obtain rfl:x=tt:=by omega
  rcases eX K'.length ab9.length with h|h|h
  ·have e1:(K'++x::Mm')[K'.length]?=some x:=by simp
   rw[e,ar h]at e1;exact absurd (aH e1) (Z HKN)
  ·exact h
  ·have e1:(ab9++x::Mm)[ab9.length]?=some x:=by simp
   rw[<- e,ar h]at e1;exact absurd rfl (hK' x (aH e1))
 rw[jG];have d1:decide ((ab9.length:Int)>=0)=true:=by simp
 have d2:decide ((0:Int)<=(ab9.length:Int))=true:=by simp
 clear kS hL' hx hK' jG NW HKN;go_wp2_with fail;refine(Z UA).mono ?_;rintro ev w2⟨v2,rfl,o2,b2⟩;obtain⟨p2,k2,rfl⟩:=aX o2;obtain⟨H2,F2⟩:=(Z dD).XK b2 o2;have e4:=(b2.cell (p:=⟨aK,4,none⟩) hlt).trans c4;have g4:=(b2.frozen (p:=⟨aK,4,none⟩) hlt).trans f4;have iu:=I H2;have eA:=I F2;clear UA o2 b2 H2 F2 dD c4 f4 c7 d1 d2;generalize(ab9++Mm).length=n2 at*;go_wp2;go_ret;exact⟨rfl,_,Z iu,Z eA⟩
end
end Pl
end Go.Proofs.YtcbmfakjfoggaaaGreatDoor
