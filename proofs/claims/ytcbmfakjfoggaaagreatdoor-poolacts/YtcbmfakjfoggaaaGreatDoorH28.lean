/- H28 -/
import Derived.Test.YtcbmfakjfoggaaaGreatDoorA0
import Derived.Test.YtcbmfakjfoggaaaGreatDoorH24
set_option maxHeartbeats 0
set_option maxRecDepth 100000
namespace Go.Proofs.YtcbmfakjfoggaaaGreatDoor
open _root_.Go.Proofs.Tryz Go.RowKit Go.Maps
namespace Mg
open Fr Bd Zn Dz Sb
section
variable {w0:World}{N0:Nat}{U:Nat->Prop}{X:Nat->Option Obj}{c z d g:Nat}{sz:Int}{m:Nat}{mn lw hi:Int}{k:Nat}{nb fm F:Nat->Nat}{fr:Nat->List Nat}{ab5:Nat}{Q nu:List Sl}{V pZ:Nat->Nd}{ws:List (Nat×Nat)}{pl L:List Nat}{ct:Nat->List Bl}{w w':World}
theorem DQ.Bn (h:DQ w0 N0 U X c z d g sz m mn lw hi k nb fm F fr ab5 Q V ws pl ct w){p2:Option Addr}{KN:Nat}(o2:w.ownsRow N0 175 1 (.slice p2 pl.length KN) pl.length (dS pl))(hpl:pl.length<=1000000)(W:World)(J:Below w.heap.size w W):
  Calls prog 157 #[.slice p2 pl.length KN] W λev w'=>ev=.returned (.int .i64 (ke ct pl pl.length))/\w'=W:=by
 cases hp:pl with
 |nil=>exact count_nil
 |cons t l =>
  rw[<- hp];have o3:=aN o2 J;obtain⟨g',cap,e,_⟩:=o3.form (by rw[hp];simp);simp only[ψ]at e;obtain⟨rfl,_,rfl⟩:=e;refine og (N0:=N0) (c:=c) (λi u hu=>?_) (λu hu=>?_) (λu hu=>?_) hpl
  ·exact(o3.cellAt i (by have:=(ν.1 hu).1;omega)).trans (by simp[dS,hu,ptr])
  ·obtain⟨r,hr,_⟩:=h.oh (t:=u) (by unfold ez;exact cX _ hu);exact⟨r,hr.same (J.block _ hr.tg.lt) (J.block _ hr.xG)⟩
  ·obtain⟨_,_,hr⟩:=h.oh (t:=u) (by unfold ez;exact cX _ hu);exact hr
theorem DQ.Xb (h:DQ w0 N0 U X c z d g sz m mn lw hi k nb fm F fr ab5 Q V ws pl ct w)(hl:ws.length<=1000)(hpl:pl.length<=1000000):
  Calls prog 85 #[.pointer (some ⟨d,0,none⟩)] w λev w'=>ev=.returned (.tuple #[.int .i64 (jT ct ws ws.length),.int .i64 (ke ct pl pl.length)])/\Below w.heap.size w w':=by
 obtain⟨cp,e1,o1⟩:=h.db.d1;obtain⟨p2,KN,e2,o2⟩:=h.db.d2;have HCN:=I (h.Bn o2 hpl);have HD:=I h;have HO:=I o1;have HS:=I (vJ h.four);have HL:Hid (ws.length=ws.length):=rfl;have pV:=h.db.tg.lt;obtain⟨i0,eO,hz0,hz1,hz2⟩:=aY vH;have HI:=I eO;have HZ:=I hz0;have eI:=I hz1;have eJ:=I hz2;clear eO hz0 hz1 hz2;clear h o1 o2;generalize ke ct pl pl.length=sp at*;generalize hn:ws.length=n at*;have HN:=I hn;clear hn HL;go_enter func85,ntmps85;go_wp2;go_loopw [2,11] (λs2 s11 wr=>∃i:Nat,s2=.int .i64 (jT ct ws i)/\s11=.int .i64 i/\i<=n/\Hid (Below w.heap.size w wr)) (λ_ s _=>n-(intOf s).toNat)
 case atStart=>exact⟨0,rfl,rfl,Γ _,γ _ _⟩
 case round =>
  obtain⟨i,rfl,rfl,hi,J⟩:=hrel;by_cases eY:i<n
  ·have ja:(i:Int)<n:=by omega
   obtain⟨a,b,hx⟩:∃a b,ws[i]?=some (a,b):=⟨_,_,ξ (by rw[Z HN];exact eY)⟩;have D':=(Z HD).b (Z J);obtain⟨x0,x1,_,sD⟩:=D'.cells hx;unfold ptr at x0 x1;have HX:=I hx;have hs:=vI (ct:=ct) hx;have HE:=I hs;have hb1:=(Z HS) i;have hb2:=(Z HS) (i+1);have hb3:jT ct ws i+((ct a).length+(ct b).length)<=9000:=by omega
   have HP:=I (λ(W:World) (hB:Below wr.heap.size wr W) (r cp:Nat)=>(D'.b hB).rM hx (r:=r) (cp:=cp));clear D' hx hs hb2;generalize jT ct ws i=s at*;generalize(ct a).length+(ct b).length=q at*;go_wp2_with fail;refine(Z HP _ (χ (χ (γ _ _) _) _) _ _ (dI _ 175 _ 0 (by simp)) (dI _ 175 _ 1 (by simp))).mono ?_;rintro ev w2⟨rfl,rfl⟩;go_wp2_with fail;go_roundw;case rel=>exact⟨i+1,by rw[Z HE];go_num,by go_num,by omega,bW (Z J) (χ (χ (γ _ _) _) _)⟩
   case measure=>simp[intOf];omega
  ·obtain rfl:i=n:=by omega
   have kn:¬(i:Int)<i:=by omega
   have xx:=((Z J).cell (p:=⟨d,2,none⟩) pV).trans e2;go_wp2_with fail;refine((Z HCN) wr (Z J)).mono ?_;rintro ev w2⟨rfl,rfl⟩;go_wp2;go_ret2;exact⟨rfl,Z J⟩
end
def jC (ct:Nat->List Bl)(L:List Nat):Nat:=(L.map λt=>(ct t).length).sum
section
variable {ct qa:Nat->List Bl}{L L':List Nat}{t a b a' b' tn i:Nat}{xs:List Bl}{o x:Bl}{ws kX:List (Nat×Nat)}{pl dC:List Nat}
theorem jt:jC ct (t::L)=(ct t).length+jC ct L:=by simp[jC]
theorem JG:jC ct (L++L')=jC ct L+jC ct L':=by simp[jC]
theorem kh (h:L.Perm L'):jC ct L=jC ct L':=(h.map _).sum_nat
theorem yD (h:t∉L):jC (kQ ct t xs) L=jC ct L:=by
 unfold jC;congr 1;refine List.map_congr_left λu hu=>?_;rw[bH (λe=>h (by rw[<- e];exact hu))]
theorem Dt (hn:L.Nodup)(ht:t∈L):jC (kQ ct t xs) L+(ct t).length=jC ct L+xs.length:=by
 induction L with
 |nil=>cases ht
 |cons u L ih =>
  obtain⟨G,O⟩:=a_.1 hn;rw[jt,jt];by_cases e:u=t
  ·subst e;rw[cH,yD G];omega
  ·rw[bH e];have:=ih O (by rcases ae.1 ht with e'|h';exact absurd e'.symm e;exact h');omega
theorem uA (L:List Nat):∀n,n<=L.length->ke ct L n=jC ct (L.take n)
 |0,_=>by simp[ke,jC]
 |n+1,h=>by
  have e:L[n]?=some L[n]:=ξ (by omega);rw[C1 e,uA L n (by omega),cK,e,JG];simp[jC]
theorem JH:ke ct L L.length=jC ct L:=by rw[uA L _ (ζ _),b_]
def Xc (ct:Nat->List Bl)(L:List Nat)(x:Bl):Prop:=∃u∈L,x∈ct u
theorem kT.lies (h:kT ct a b pl a' b' dC)(hx:ws[i]?=some (a,b)):jC ct (ez (ws.set i (a',b')) dC)=jC ct (ez ws pl)/\∀u∈ez (ws.set i (a',b')) dC,u∈ez ws pl:=by
 have hi:i<ws.length:=(ν.1 hx).1;have p1:=fN pl hx;have p2:=kF hi a' b' dC;rw[kh p1,kh p2];cases h with
 |keep _ _=>exact⟨rfl,λu hu=>p1.mem_iff.2 (p2.mem_iff.1 hu)⟩
 |swap _ _ _ =>
  refine⟨by simp only[jt];omega,λu hu=>p1.mem_iff.2 ((List.Perm.swap a b _).mem_iff.1 (p2.mem_iff.1 hu))⟩
 |none _ _ =>
  refine⟨by simp only[jt];omega,λu hu=>p1.mem_iff.2 ((List.Perm.swap a b _).mem_iff.1 (p2.mem_iff.1 hu))⟩
 |iF _ _ G O =>
  have p3:=qI (ws.eraseIdx i) dC a';have p4:=(List.Perm.cons a (List.Perm.cons b p3));refine⟨?_,λu hu=>p1.mem_iff.2 (p4.mem_iff.2 ?_)⟩
  ·rw[kh p4];simp only[jt,G,O,aA];omega
  ·have:=p2.mem_iff.1 hu;simp only[ae]at this ⊢;rcases this with h|h|h
   ·exact δ (δ (ε h))
   ·exact ε h
   ·exact δ (δ (δ h))
theorem x_.lies (h:x_ ct a b i o ws pl kX dC qa)(hn:(ez ws pl).Nodup)(hx:ws[i]?=some (a,b)):jC qa (ez kX dC)=jC ct (ez ws pl)+1/\Xc qa (ez kX dC) o/\(∀x,x≠o->Xc qa (ez kX dC) x->Xc ct (ez ws pl) x)/\kX.length=ws.length:=by
 have hi:i<ws.length:=(ν.1 hx).1;have p1:=fN pl hx;have Lt:=p1.nodup_iff.1 hn;have ha:a∈ez ws pl:=p1.mem_iff.2 (by simp);have J:b∈ez ws pl:=p1.mem_iff.2 (by simp);cases h with
 |room h =>
  refine⟨?_,⟨a,ha,by rw[cH];simp⟩,λx hne ⟨u,hu,hm⟩=>?_,rfl⟩
  ·have:=Dt (ct:=ct) (xs:=ct a++[o]) hn ha;rw[φ,ag]at this;omega
  ·by_cases e:u=a
   ·subst e;rw[cH]at hm;rcases aC.1 hm with h'|h'
    ·exact⟨u,hu,h'⟩
    ·exact absurd (aw.1 h') hne
   ·rw[bH e]at hm;exact⟨u,hu,hm⟩
 |swap h O =>
  have p2:=(kF hi b a pl).trans ((List.Perm.swap a b _).trans p1.symm);refine⟨?_,⟨b,p2.mem_iff.2 J,by rw[cH];simp⟩,λx hne ⟨u,hu,hm⟩=>?_,by simp⟩
  ·rw[kh p2];have:=Dt (ct:=ct) (xs:=[o]) hn J;rw[O,aA,ag]at this;omega
  ·by_cases e:u=b
   ·subst e;rw[cH]at hm;exact absurd (aw.1 hm) hne
   ·rw[bH e]at hm;exact⟨u,p2.mem_iff.1 hu,hm⟩
 |iF tn h O h3 =>
  have p3:=qI (ws.eraseIdx i) pl a;have p4:(ez (ws.set i (tn,b)) (pl++[a])).Perm (tn::ez ws pl):=(kF hi tn b (pl++[a])).trans (List.Perm.cons tn (((List.Perm.cons b p3).trans (List.Perm.swap a b _)).trans p1.symm));refine⟨?_,⟨tn,p4.mem_iff.2 (by simp),by rw[cH];simp⟩,λx hne ⟨u,hu,hm⟩=>?_,by simp⟩
  ·rw[kh p4,jt,cH,yD h3,ag];omega
  ·by_cases e:u=tn
   ·subst e;rw[cH]at hm;exact absurd (aw.1 hm) hne
   ·rw[bH e]at hm;rcases ae.1 (p4.mem_iff.1 hu)with e'|h'
    ·exact absurd e' e
    ·exact⟨u,h',hm⟩
end
end Mg
end Go.Proofs.YtcbmfakjfoggaaaGreatDoor
