/- H40 -/
import Derived.Test.YtcbmfakjfoggaaaGreatDoorA0
import Derived.Test.YtcbmfakjfoggaaaGreatDoorH36
import Derived.Test.YtcbmfakjfoggaaaGreatDoorH39
set_option maxHeartbeats 0
set_option maxRecDepth 100000
namespace Go.Proofs.YtcbmfakjfoggaaaGreatDoor
open _root_.Go.Proofs.Tryz Go.RowKit Go.Maps
namespace Pl
open Fr Bd Zn Dz Sb Mg Rd
variable {o:Bl}{ab6:List (Nat×Bl)}{t:Int}
theorem F_ {ab9 M:List Bl}(hK:o∉ab9):(ab9++o::M).erase o=ab9++M:=by
 rw[List.erase_append_right _ hK,List.erase_cons_head]
section
variable {C:Dc}{S S':Ds}{P:Ps}{R:Rs}{n:Nat}{o:Bl}{x:Int}{r:Option Nat}
theorem PJ.drop {ab9 M:List Bl}{ie:Value}(h:PJ C S P R n)(hT:P.T=ab9++o::M)(hK:o∉ab9):PJ C S {P with T:=P.T.erase o} {R with T:=ab9++M,vT:=ie} n/\o∉P.R++(P.T.erase o++P.ab6.map (·.2))/\di C S o:=by
 have he:P.T.erase o=ab9++M:=by rw[hT];exact F_ hK
 have hp:(P.R++(P.T++P.ab6.map (·.2))).Perm (o::(P.R++(P.T.erase o++P.ab6.map (·.2)))):=by
  rw[he,hT];simp only[aJ,cJ];rw[<- aJ,<- aJ];exact eF
 have hn:=hp.nodup_iff.1 h.V;obtain⟨n1,n2⟩:=a_.1 hn;refine⟨⟨h.e1,h.e2,he.symm,h.e4,h.e5,h.e6,h.e7,h.most,h.rl,h.ab5,h.q,h.tk,h.ln,h.lt,h.yt,h.DR,h.FX,n2,λp sx=>h.out p (hp.mem_iff.2 (aD _ sx)),?_,h.yl⟩,n1,h.out o (hp.mem_iff.2 (by simp))⟩;have:=h.tl;simp only[he];rw[hT]at this;simp only[φ,bk]at this ⊢;omega
theorem PJ.room {rR DT:Value}(h:PJ C S P R n)(ho:o∉P.R++(P.T++P.ab6.map (·.2)))(hi:di C S o)(hr:P.R.length<P.most):PJ C S {P with R:=P.R++[o],vr:=rR} {R with R:=R.R++[o],vR:=DT} (n+1):=by
 have hp:((P.R++[o])++(P.T++P.ab6.map (·.2))).Perm (o::(P.R++(P.T++P.ab6.map (·.2)))):=by
  rw[aJ];exact eF
 refine⟨h.e1,by simp only;rw[h.e2],h.e3,h.e4,h.e5,h.e6,h.e7,h.most,by simp only[φ,ag];omega,by have:=h.ab5;omega,by have:=h.q;simp only;omega,by have:=h.tk;simp only;omega,h.ln,h.lt,h.yt,h.DR,h.FX,hp.nodup_iff.2 (a_.2 ⟨ho,h.V⟩),λp sx=>?_,by have:=h.tl;simp only;omega,by have:=h.yl;simp only;omega⟩;rcases ae.1 (hp.mem_iff.1 sx)with rfl|e
 ·exact hi
 ·exact h.out p e
theorem PJ.full (h:PJ C S P R n)(ho:o∉P.R++(P.T++P.ab6.map (·.2)))(hF:FA C S)(hG:yj C S x o r S'):PJ C S' P R (n+1):=
 ⟨h.e1,h.e2,h.e3,h.e4,h.e5,h.e6,h.e7,h.most,h.rl,by have:=h.ab5;have:=hG.ab5;omega,by have:=h.q;omega,by have:=h.tk;omega,h.ln,h.lt,h.yt,h.DR,h.FX,h.V,λp hp=>N2 hF hG (h.out p hp) (λe=>ho (e▸hp)),by have:=h.tl;omega,by have:=h.yl;omega⟩
end
def Ga (e:Nat->Addr)(v1 v2:Value):Prop:=∃(r:Int),v2=.int .i64 r/\Uz e v1 r
section
variable {C:Dc}{S:Ds}{P:Ps}{R R':Rs}{n:Nat}
theorem PJ.re (h:PJ C S P R n)(a1:R'.most=R.most)(a2:R'.R=R.R)(a3:R'.T=R.T)(a4:R'.L=R.L)(a5:R'.ab6=R.ab6)(a6:R'.last=R.last)(a7:R'.cl=R.cl):PJ C S P R' n :=
 ⟨a1.trans h.e1,a2.trans h.e2,a3.trans h.e3,a4.trans h.e4,a5.trans h.e5,a6.trans h.e6,a7.trans h.e7,h.most,h.rl,h.ab5,h.q,h.tk,h.ln,h.lt,h.yt,h.DR,h.FX,h.V,h.out,h.tl,h.yl⟩
end
end Pl
end Go.Proofs.YtcbmfakjfoggaaaGreatDoor
