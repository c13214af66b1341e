/- H19 -/
import Derived.Test.YtcbmfakjfoggaaaGreatDoorA0
import Derived.Test.YtcbmfakjfoggaaaGreatDoorH15
namespace Go.Proofs.YtcbmfakjfoggaaaGreatDoor
open _root_.Go.Proofs.Tryz Go.RowKit Go.Maps
namespace Dz
open Fr Bd Zn
theorem IA (L:List Nat)(k:Nat)(D:L.length=k)(p:Nat->Bool):((List.range k).any λj=>p (L.getD j 0))=L.any p:=by
 rw[Bool.eq_iff_iff];simp only[gG,fw];constructor
 ·rintro⟨i,hi,h⟩;rw[au,ξ (by omega),bY]at h;exact⟨_,aO (by omega),h⟩
 ·rintro⟨y,hy,h⟩;obtain⟨i,hi,rfl⟩:=bU hy;exact⟨i,by omega,by rw[au,ξ hi,bY];exact h⟩
theorem IB {L:List Nat}{k:Nat}{r:Int}{p q:Nat->Bool}(D:L.length=k)(TK:∀i∈L,p i=q i)(h:Hn (λj=>p (L.getD j 0)) k r):
  (r = -1/\L.find? q=none)\/∃j:Nat,j<k/\r=j/\L.find? q=some (L.getD j 0)/\q (L.getD j 0)=true:=by
 have hg:∀j (E:j<L.length),L.getD j 0=L[j]:=λj E=>by rw[au,ξ E,bY]
 rcases h with⟨G,O⟩|⟨i,hi,G,O,h3⟩
 ·refine ε ⟨G,?_⟩;rw[dn];intro y hy;obtain⟨j,E,rfl⟩:=bU hy;have:=O j (by omega);simp only[hg j E]at this;rw[<- TK _ (aO E),this];simp
 ·have hi':i<L.length:=by omega
  have h4:q L[i]=true:=by
   have:=O;simp only[hg i hi']at this;rw[<- TK _ (aO hi')];exact this
  refine δ ⟨i,hi,G,?_,by rw[hg i hi'];exact h4⟩;rw[hg i hi'];refine qE hi' (λj' hj' hlt=>?_) h4;have:=h3 j' hlt;simp only[hg j' hj']at this;rw[<- TK _ (aO hj')];exact this
def Rc (z:Nat)(mn lw hi:Int)(k:Nat)(nb fm F:Nat->Nat)(V:Nat->Nd)(fr:Nat->List Nat)(x:Nat)(o:Int)(u:Bool)(e:Nat->Addr)(w:World)(ev:Ending)(w':World):Prop :=
 ((fr x).find? (λi=>fA o mn u (V i)==2)=none/\ev=.returned (.tuple #[sM 0 0 0,bc (e (if(fr x).any (λi=>fA o mn u (V i)==1)then 6 else 4))])/\Below w.heap.size w w') \/
   ∃i,(fr x).find? (λi=>fA o mn u (V i)==2)=some i/\i<k/\ev=.returned (.tuple #[sM i (mO o (V i)) o,.nilIface])/\DZ w' z mn lw hi k nb fm F (up V i (kC o (V i))) fr/\Kept (fm i) (F i) w w'
end Dz
end Go.Proofs.YtcbmfakjfoggaaaGreatDoor
