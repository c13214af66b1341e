/- H30 -/
import Derived.Test.YtcbmfakjfoggaaaGreatDoorA0
import Derived.Test.YtcbmfakjfoggaaaGreatDoorH24
namespace Go.Proofs.YtcbmfakjfoggaaaGreatDoor
open _root_.Go.Proofs.Tryz Go.RowKit Go.Maps
namespace Pl
open Fr Bd Zn Dz Sb Mg
section
variable {C:Dc}{X:Nat->Option Obj}{S:Ds}{w:World}
structure FA (C:Dc)(S:Ds):Prop where
 ok:∀s∈S.Q,KP C.m s
 so:Sorted S.Q
 mm:1<=C.sz/\C.sz<=64/\(C.m:Int)=64/C.sz
 ml:C.m<=64
 le:S.Q.length<=10000
 k4:C.k<=20
 four:∀x∈S.ws,(S.ct x.1).length<=4/\(S.ct x.2).length<=4
 pf:∀t∈S.pl,(S.ct t).length=4
 pq:S.pl.length<=S.ab5
 V:(ez S.ws S.pl).Nodup
 m1:1<=C.m
 tk:∀t∈ez S.ws S.pl,∀o∈S.ct t,iM C.m C.sz S.Q o.1 o.2
 cn:∀t∈ez S.ws S.pl,(S.ct t).Nodup
 un:∀t∈ez S.ws S.pl,∀u∈ez S.ws S.pl,∀o,o∈S.ct t->o∈S.ct u->t=u
 ow:Ow C.k S.V S.Q
 nok:∀i,i<C.k->(S.V i).ok
theorem DK.fa {U:Nat->Prop}(h:DK C U X S w):FA C S:=by
 obtain⟨ly,bs,q,f,rb,G,O,h3⟩:=DQ.ex h;exact⟨G.c.ok,G.c.so,G.c.mm,G.c.Pb.2,o_ G,G.k4,DQ.four h,DQ.pf h,DQ.pq h,DQ.nodup h,G.c.Pb.1,DQ.tk h,λt ht=>(O.cn t ht).1,λt ht u hu o h5 h6=>by
  have e1:=(O.lf o.1 o.2 t).2 ⟨ht,h5⟩;have e2:=(O.lf o.1 o.2 u).2 ⟨hu,h6⟩;rw[e1]at e2;exact ah e2,G.ow,G.d.ok⟩
end
end Pl
namespace Mg
open Fr Bd Zn Dz Sb
theorem Td {w:World}{B k cp j:Nat}{p:Option Addr}{l:List Bl}{x y:Int}(h:w.ownsRow B 34 2 (.slice p k cp) k (flat l))(hl:l.length=k)(E:l[j]?=some (x,y)):∃g,p=some ⟨g,0,none⟩/\w.cell? ⟨g,j*2,none⟩=some (.int .i64 x)/\w.cell? ⟨g,j*2+1,none⟩=some (.int .i64 y):=by
 obtain⟨qm,Mt⟩:=ν.1 E;obtain⟨g,cap,e,_⟩:=h.form (by omega);simp only[ψ]at e;obtain⟨rfl,_,rfl⟩:=e;obtain⟨f0,f1⟩:=gO l j qm;rw[Mt,dZ]at f0 f1;exact⟨g,rfl,(h.cellAt (j*2) (by omega)).trans f0,(h.cellAt (j*2+1) (by omega)).trans f1⟩
theorem pL {l:List Bl}{j:Nat}{o:Bl}(h:l[j]?=some o):l.take (j+1)=l.take j++[o]:=by
 rw[cK,h];rfl
end Mg
namespace Pl
open Fr Bd Zn Dz Sb Mg
section
variable {B:Nat}{w w':World}{Y d F ym:Nat}{P:Ps}
theorem nz (a b:List Nat):dX (a++b)=dX a++dX b:=by simp[dX]
theorem Ka (h:jo B w Y d F ym P){t:Nat}{ab9 L:List Nat}(hL:P.L=ab9++t::L):
  ∃b c,P.vl=.slice (some ⟨b,0,none⟩) (ab9.length+(L.length+1)) c/\∀W,W.heap[b]?=w.heap[b]?->Calls prog 96 #[.slice (some ⟨b,0,none⟩) (ab9.length+(L.length+1)) c,.int .i64 ab9.length,.int .i64 ((ab9.length:Int)+1)] W λev w'=>ev=.returned (.slice (some ⟨b,0,none⟩) (ab9++L).length c)/\w'.ownsRow B 3 1 (.slice (some ⟨b,0,none⟩) (ab9++L).length c) (ab9++L).length (dX (ab9++L))/\Kept b b W w':=by
 have hl:=h.l;have hlen:P.L.length=ab9.length+(L.length+1):=by rw[hL];simp
 obtain⟨b,c,hv,_⟩:=hl.form (by omega);obtain⟨f1,f2,f3,f4⟩:=iG h hv;rw[hv,hlen]at hl;refine⟨b,c,by rw[hv,hlen],λW hW=>?_⟩;have hlW:=aI hl (λg hg=>by
  obtain rfl:b=g:=by simpa[Value.ownBlock]using hg
  exact hW)
 have Gi:=Sh.slices_Delete_int_cells b 0 (ab9.length+(L.length+1)) c ab9.length (ab9.length+1) (P.L.map Int.ofNat) W (by rw[eT];omega) (by omega) (by unfold maxLen at f3;omega) (by omega) (by omega) (λj E=>(η (w:=w) (a:=⟨b,0+j,none⟩) hW).trans (f1 j E)) (λj E=>(π (w:=w) (a:=⟨b,0+j,none⟩) hW).trans (f4 j (by omega)));rw[show((ab9.length+1:Nat):Int)=(ab9.length:Int)+1 from by omega]at Gi;refine Gi.mono ?_;rintro ev w'⟨rfl,q,rfl⟩;have hd:(W.drewN q).ownsRow B 3 1 (.slice (some ⟨b,0,none⟩) (ab9.length+(L.length+1)) c) (ab9.length+(L.length+1)) (dX P.L):=aN hlW (iB (γ _ _) q);have e1:((((P.L.map Int.ofNat).take (ab9.length+(L.length+1))).take ab9.length++((P.L.map Int.ofNat).take (ab9.length+(L.length+1))).drop (ab9.length+1)++List.replicate (ab9.length+1-ab9.length) 0).map (Value.int .i64))=dX (ab9++L)++[.int .i64 0]:=by
  have hz:(P.L.map Int.ofNat).take (ab9.length+(L.length+1))=P.L.map Int.ofNat:=bG (by rw[eT];omega);have G:(P.L.map Int.ofNat).take ab9.length=ab9.map Int.ofNat:=by
   rw[hL,cU];exact List.take_left' (by simp)
  have O:(P.L.map Int.ofNat).drop (ab9.length+1)=L.map Int.ofNat:=by
   rw[hL,show ab9++t::L=(ab9++[t])++L from by simp,cU];exact List.drop_left' (by simp)
  have h3:ab9.length+1-ab9.length=1:=by omega
  rw[hz,G,O,h3];simp[dX];rfl
 have hs:=rQ (dX (ab9++L)++[.int .i64 0]) 0 (dX P.L) (W.drewN q) hd (by simp[dX,hL]);have Lt:ab9.length+(L.length+1)-(ab9.length+1-ab9.length)=(ab9++L).length:=by simp
 refine⟨by rw[Lt],?_,?_⟩
 ·rw[e1];refine vN hs (by simp) ?_;rw[List.take_zero,aT,aJ,gq];exact List.take_left' (by simp[dX])
 ·rw[e1];exact(dY (iB (γ _ _) q)).trans (jY _ _ _)
end
end Pl
end Go.Proofs.YtcbmfakjfoggaaaGreatDoor
