/- H28 -/
import Derived.Test.YtcbmfakjfoggaaaGreatDoorA0
import Derived.Test.YtcbmfakjfoggaaaGreatDoorH24
set_option maxHeartbeats 0
set_option maxRecDepth 100000
namespace Go.Proofs.YtcbmfakjfoggaaaGreatDoor
open _root_.Go.Proofs.Tryz Go.RowKit Go.Maps
namespace Mg
open Fr Bd Zn Dz Sb
def jC (ct:Nat->List Bl)(L:List Nat):Nat:=(L.map λt=>(ct t).length).sum
section
variable {ct qa:Nat->List Bl}{L L':List Nat}{t a b a' b' tn i:Nat}{xs:List Bl}{o x:Bl}{ws kX:List (Nat×Nat)}{pl dC:List Nat}
theorem jt:jC ct (t::L)=(ct t).length+jC ct L:=by simp[jC]
theorem kh (h:L.Perm L'):jC ct L=jC ct L':=(h.map _).sum_nat
theorem yD (h:t∉L):jC (kQ ct t xs) L=jC ct L:=by
 unfold jC;congr 1;refine List.map_congr_left λu hu=>?_;rw[bH (λe=>h (by rw[<- e];exact hu))]
theorem Dt (hn:L.Nodup)(ht:t∈L):jC (kQ ct t xs) L+(ct t).length=jC ct L+xs.length:=by
 induction L with
 |nil=>cases ht
 |cons u L ih =>
  obtain⟨G,O⟩:=a_.1 hn;rw[jt,jt];by_cases e:u=t
  ·subst e;rw[cH,yD G];omega
  ·rw[bH e];have:=ih O (by rcases ae.1 ht with e'|h';exact absurd e'.symm e;exact h');omega
def Xc (ct:Nat->List Bl)(L:List Nat)(x:Bl):Prop:=∃u∈L,x∈ct u
theorem kT.lies (h:kT ct a b pl a' b' dC)(hx:ws[i]?=some (a,b)):jC ct (ez (ws.set i (a',b')) dC)=jC ct (ez ws pl)/\∀u∈ez (ws.set i (a',b')) dC,u∈ez ws pl:=by
 have hi:i<ws.length:=(ν.1 hx).1;have p1:=fN pl hx;have p2:=kF hi a' b' dC;rw[kh p1,kh p2];cases h with
 |keep _ _=>exact⟨rfl,λu hu=>p1.mem_iff.2 (p2.mem_iff.1 hu)⟩
 |swap _ _ _ =>
  refine⟨by simp only[jt];omega,λu hu=>p1.mem_iff.2 ((List.Perm.swap a b _).mem_iff.1 (p2.mem_iff.1 hu))⟩
 |none _ _ =>
  refine⟨by simp only[jt];omega,λu hu=>p1.mem_iff.2 ((List.Perm.swap a b _).mem_iff.1 (p2.mem_iff.1 hu))⟩
 |iF _ _ G O =>
  have p3:=qI (ws.eraseIdx i) dC a';have p4:=(List.Perm.cons a (List.Perm.cons b p3));refine⟨?_,λu hu=>p1.mem_iff.2 (p4.mem_iff.2 ?_)⟩
  ·rw[kh p4];simp only[jt,G,O,aA];omega
  ·have:=p2.mem_iff.1 hu;simp only[ae]at this ⊢;rcases this with h|h|h
   ·exact δ (δ (ε h))
   ·exact ε h
   ·exact δ (δ (δ h))
theorem x_.lies (h:x_ ct a b i o ws pl kX dC qa)(hn:(ez ws pl).Nodup)(hx:ws[i]?=some (a,b)):jC qa (ez kX dC)=jC ct (ez ws pl)+1/\Xc qa (ez kX dC) o/\(∀x,x≠o->Xc qa (ez kX dC) x->Xc ct (ez ws pl) x)/\kX.length=ws.length:=by
 have hi:i<ws.length:=(ν.1 hx).1;have p1:=fN pl hx;have Lt:=p1.nodup_iff.1 hn;have ha:a∈ez ws pl:=p1.mem_iff.2 (by simp);have J:b∈ez ws pl:=p1.mem_iff.2 (by simp);cases h with
 |room h =>
  refine⟨?_,⟨a,ha,by rw[cH];simp⟩,λx hne ⟨u,hu,hm⟩=>?_,rfl⟩
  ·have:=Dt (ct:=ct) (xs:=ct a++[o]) hn ha;rw[φ,ag]at this;omega
  ·by_cases e:u=a
   ·subst e;rw[cH]at hm;rcases aC.1 hm with h'|h'
    ·exact⟨u,hu,h'⟩
    ·exact absurd (aw.1 h') hne
   ·rw[bH e]at hm;exact⟨u,hu,hm⟩
 |swap h O =>
  have p2:=(kF hi b a pl).trans ((List.Perm.swap a b _).trans p1.symm);refine⟨?_,⟨b,p2.mem_iff.2 J,by rw[cH];simp⟩,λx hne ⟨u,hu,hm⟩=>?_,by simp⟩
  ·rw[kh p2];have:=Dt (ct:=ct) (xs:=[o]) hn J;rw[O,aA,ag]at this;omega
  ·by_cases e:u=b
   ·subst e;rw[cH]at hm;exact absurd (aw.1 hm) hne
   ·rw[bH e]at hm;exact⟨u,p2.mem_iff.1 hu,hm⟩
 |iF tn h O h3 =>
  have p3:=qI (ws.eraseIdx i) pl a;have p4:(ez (ws.set i (tn,b)) (pl++[a])).Perm (tn::ez ws pl):=(kF hi tn b (pl++[a])).trans (List.Perm.cons tn (((List.Perm.cons b p3).trans (List.Perm.swap a b _)).trans p1.symm));refine⟨?_,⟨tn,p4.mem_iff.2 (by simp),by rw[cH];simp⟩,λx hne ⟨u,hu,hm⟩=>?_,by simp⟩
  ·rw[kh p4,jt,cH,yD h3,ag];omega
  ·by_cases e:u=tn
   ·subst e;rw[cH]at hm;exact absurd (aw.1 hm) hne
   ·rw[bH e]at hm;rcases ae.1 (p4.mem_iff.1 hu)with e'|h'
    ·exact absurd e' e
    ·exact⟨u,h',hm⟩
end
end Mg
end Go.Proofs.YtcbmfakjfoggaaaGreatDoor
