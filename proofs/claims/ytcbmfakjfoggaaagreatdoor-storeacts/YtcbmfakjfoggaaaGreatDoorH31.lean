/- H31 -/
import Derived.Test.YtcbmfakjfoggaaaGreatDoorA0
import Derived.Test.YtcbmfakjfoggaaaGreatDoorH27
import Derived.Test.YtcbmfakjfoggaaaGreatDoorH28
import Derived.Test.YtcbmfakjfoggaaaGreatDoorH16
import Derived.Test.YtcbmfakjfoggaaaGreatDoorH26
set_option maxHeartbeats 0
set_option maxRecDepth 100000
namespace Go.Proofs.YtcbmfakjfoggaaaGreatDoor
open _root_.Go.Proofs.Tryz Go.RowKit Go.Maps
namespace Rd
open Fr Bd Zn Dz Sb Mg
def HH (ct:Nat->List Bl)(ws:List (Nat×Nat)):List (List Bl×List Bl):=ws.map λx=>(ct x.1,ct x.2)
def PP (ct:Nat->List Bl)(pl:List Nat):List (List Bl):=pl.map ct
section
variable {ct qa:Nat->List Bl}{ws kX:List (Nat×Nat)}{pl dC:List Nat}{a b a' b' i t:Nat}{o:Bl}{xs:List Bl}
theorem kJ:(HH ct ws).length=ws.length:=by simp[HH]
theorem vU:(PP ct pl).length=pl.length:=by simp[PP]
theorem pH (h:ws[i]?=some (a,b)):(HH ct ws)[i]?=some (ct a,ct b):=by simp[HH,h]
theorem Bo:HH ct (ws.set i (a,b))=(HH ct ws).set i (ct a,ct b):=by simp[HH,List.map_set]
theorem yE (h:∀t∈pl,ct t=qa t):PP ct pl=PP qa pl:=List.map_congr_left h
theorem Du:PP ct (pl++[t])=PP ct pl++[ct t]:=by simp[PP]
theorem JJ:o∈ei (HH ct ws)++(PP ct pl).flatten↔Xc ct (ez ws pl) o:=by
 unfold ei HH PP Xc ez;simp only[aC,eE,eV,List.mem_flatten,ae,aR,dg];constructor
 ·rintro(⟨x,⟨y,hy,rfl⟩,h⟩|⟨l,⟨t,ht,rfl⟩,h⟩)
  ·rcases h with h|h
   ·exact⟨y.1,ε ⟨y,hy,ε rfl⟩,h⟩
   ·exact⟨y.2,ε ⟨y,hy,δ rfl⟩,h⟩
  ·exact⟨t,δ ht,h⟩
 ·rintro⟨u,hu|hu,h⟩
  ·obtain⟨y,hy,rfl|rfl⟩:=hu
   ·exact ε ⟨_,⟨y,hy,rfl⟩,ε h⟩
   ·exact ε ⟨_,⟨y,hy,rfl⟩,δ h⟩
  ·exact δ ⟨_,⟨u,hu,rfl⟩,h⟩
theorem rV (h:∀x∈ws,(ct x.1).length<=4/\(ct x.2).length<=4):(ei (HH ct ws)).length<=ws.length*8:=by
 induction ws with
 |nil=>simp[ei,HH]
 |cons x l ih =>
  have e:ei (HH ct (x::l))=ct x.1++ct x.2++ei (HH ct l):=by simp[ei,HH]
  obtain⟨G,O⟩:=h x (by simp);have:=ih (λy hy=>h y (aD _ hy));rw[e,φ,φ,bk];omega
theorem pI (h:∀t∈pl,(ct t).length=4):(PP ct pl).flatten.length=pl.length*4:=by
 induction pl with
 |nil=>simp[PP]
 |cons x l ih =>
  have e:(PP ct (x::l)).flatten=ct x++(PP ct l).flatten:=by simp[PP]
  have G:=h x (by simp);have:=ih (λy hy=>h y (aD _ hy));rw[e,φ,bk];omega
theorem kT.toH (h:kT ct a b pl a' b' dC){oN oA:Int}(K:ct a'=xs++[(oN,oA)]):PH (ct a) (ct b) (PP ct pl) (ct a') (ct b') (PP ct dC):=by
 cases h with
 |keep _ h=>exact PH.keep _ h
 |swap _ h O=>exact PH.swap _ h O
 |none h O=>rw[O]at K;exact absurd K.symm (by simp)
 |iF _ _ h O =>
  rw[Du,h,O];exact PH.iF _ _ rfl rfl
theorem kT.bare (h:kT ct a b pl a' b' dC)(hp:∀t∈pl,(ct t).length=4)(K:ct a'=[]):pl=[]/\dC=[]/\ct a=[]/\ct b=[]/\ct b'=[]:=by
 cases h with
 |keep _ h=>exact absurd K h
 |swap _ h O=>exact absurd K O
 |none h O=>exact⟨rfl,rfl,h,O,h⟩
 |iF _ _ h O =>
  have:=hp a' (by simp);rw[K]at this;cases this
theorem x_.toH (h:x_ ct a b i o ws pl kX dC qa)(hn:(ez ws pl).Nodup)(hx:ws[i]?=some (a,b))(h4:(ct a).length<=4):yB (ct a) (ct b) i o (HH ct ws) (PP ct pl) (HH qa kX) (PP qa dC):=by
 have hi:i<ws.length:=(ν.1 hx).1;have p1:=fN pl hx;have Lt:=p1.nodup_iff.1 hn;simp only[a_,ae,not_or]at Lt;obtain⟨⟨n1,n2⟩,n3,n4⟩:=Lt;have zY:∀(u:Nat) (l:List Bl),u∉ez (ws.eraseIdx i) pl->∀j x,j≠i->ws[j]?=some x->kQ ct u l x.1=ct x.1/\kQ ct u l x.2=ct x.2:=λu l hu j x E mN=>by
  have hm:x∈ws.eraseIdx i:=(List.mem_eraseIdx_iff_getElem?).2 ⟨j,E,mN⟩;have G:x.1∈ez (ws.eraseIdx i) pl:=by unfold ez;exact ee _ (eE.2 ⟨x,hm,by simp⟩)
  have O:x.2∈ez (ws.eraseIdx i) pl:=by unfold ez;exact ee _ (eE.2 ⟨x,hm,by simp⟩)
  exact⟨bH (λe=>hu (by rw[<- e];exact G)) _,bH (λe=>hu (by rw[<- e];exact O)) _⟩
 have hpl:∀(u:Nat) (l:List Bl),u∉ez (ws.eraseIdx i) pl->PP (kQ ct u l) pl=PP ct pl:=λu l hu=>yE λt ht=>bH (λe=>hu (by unfold ez;exact cX _ (by rw[<- e];exact ht))) _;have kY:∀(u p q:Nat) (l:List Bl),u∉ez (ws.eraseIdx i) pl->HH (kQ ct u l) (ws.set i (p,q))=(HH ct ws).set i (kQ ct u l p,kQ ct u l q):=λu p q l hu=>by
  refine dN λj=>?_;by_cases e:j=i
  ·subst e;rw[aP (by rw[kJ];exact hi)];simp[HH,hi]
  ·rw[cL (cV e)];unfold HH;rw[dy,dy,cL (cV e)];cases E:ws[j]? with
   |none=>rfl
   |some x =>
    obtain⟨z1,z2⟩:=zY u l hu j x e E;simp[z1,z2]
 cases h with
 |room h =>
  rw[hpl a _ n2];have e1:=kY a a b (ct a++[o]) n2;rw[pE hx,cH,bH (cV n1)]at e1;rw[e1];exact yB.room (by omega)
 |swap h O =>
  rw[hpl b _ n3,kY b b a [o] n3,cH,bH n1];exact yB.swap h O
 |iF tn h O h3 =>
  have hno:tn∉ez (ws.eraseIdx i) pl:=λhm=>h3 (p1.mem_iff.2 (by simp[hm]));have na:a≠tn:=λe=>h3 (p1.mem_iff.2 (by simp[e]));have nb:b≠tn:=λe=>h3 (p1.mem_iff.2 (by simp[e]));rw[Du,hpl tn _ hno,bH na,kY tn tn b [o] hno,cH,bH nb];exact yB.iF h O
end
abbrev R6:List (Option TypeId):=[some 333,some 253,some 140,some 302,some 4,some 164,some 185]
section
variable {w0:World}{N0:Nat}{U ab4:Nat->Prop}{X:Nat->Option Obj}{c z d g rc rz rd J:Nat}{sz:Int}{m:Nat}{mn lw hi:Int}{k:Nat}{nb fm F:Nat->Nat}{fr:Nat->List Nat}{ab5:Nat}{Q KY:List Sl}{V KZ:Nat->Nd}{ws:List (Nat×Nat)}{pl:List Nat}{ct:Nat->List Bl}{H:List (List Bl×List Bl)}{P:List (List Bl)}{w w':World}
structure QD (w0:World)(N0:Nat)(X:Nat->Option Obj)(c z d g rc rz rd J:Nat)(sz:Int)(m:Nat)(mn lw hi:Int)(k:Nat)(nb fm F:Nat->Nat)(fr:Nat->List Nat)(U ab4:Nat->Prop)(ab5:Nat)(Q:List Sl)(V:Nat->Nd)(ws:List (Nat×Nat))(pl:List Nat)(ct:Nat->List Bl)(KY:List Sl)(KZ:Nat->Nd)(H:List (List Bl×List Bl))(P:List (List Bl))(w:World):Prop where
 q:DQ w0 N0 (λj=>U j\/ab4 j) X c z d g sz m mn lw hi k nb fm F fr ab5 Q V ws pl ct w
 r:∃rb rt jd,RR N0 w rc rz sz m rb rt KY mn lw hi k jd KZ fr
 d:RD N0 U w rd rc J H P
theorem QD.uk (h:QD w0 N0 X c z d g rc rz rd J sz m mn lw hi k nb fm F fr U ab4 ab5 Q V ws pl ct KY KZ H P w):∀k,U k->Tag w k 34:=λk D=>h.q.uk k (ε D)
theorem QD.b (h:QD w0 N0 X c z d g rc rz rd J sz m mn lw hi k nb fm F fr U ab4 ab5 Q V ws pl ct KY KZ H P w)(hb':Below w.heap.size w w'):QD w0 N0 X c z d g rc rz rd J sz m mn lw hi k nb fm F fr U ab4 ab5 Q V ws pl ct KY KZ H P w':=by
 obtain⟨rb,rt,jd,hr⟩:=h.r;exact⟨h.q.b hb',⟨rb,rt,jd,hr.b hb'⟩,h.d.b h.uk hb'⟩
end
section
variable {w0:World}{N0:Nat}{X:Nat->Option Obj}{c z g rc rz rd J:Nat}{sz:Int}{m:Nat}{mn lw hi:Int}{k:Nat}{nb fm F:Nat->Nat}{fr:Nat->List Nat}{V:Nat->Nd}{ws:List (Nat×Nat)}{w w' W W2:World}
theorem QD.new {ly:Nat×Obj}{bs:List Nat}{jd:Nat->Nat}(h:PS N0 w c z (ly.1,ly.2,X) sz m bs [] mn lw hi k nb fm F V fr)(hb0:Below w0.heap.size w0 w)(hN:N0<=w.heap.size)(Nq:ly.2=.map #[] 0)(hw:1<=ws.length)(hD:DN N0 w c ws w')(hB:Below w'.heap.size w' W)(hr:RR N0 W rc rz sz m [] [] [] mn lw hi k jd V fr)(mS:Below W.heap.size W W2)(hd:RD N0 (λ_=>False) W2 rd rc J (List.replicate ws.length ([],[])) []):∃g,QD w0 N0 X c z w.heap.size g rc rz rd J sz m mn lw hi k nb fm F fr (λ_=>False) (OB (.slice none 0 0)) 0 [] V ws [] (λ_=>[]) [] V (HH (λ_=>[]) ws) (PP (λ_=>[]) []) W2:=by
 obtain⟨g,hg⟩:=DQ.fresh h hb0 hN Nq hw hD;have e1:HH (λ_=>[]) ws=List.replicate ws.length ([],[]):=by
  unfold HH;exact List.map_const' ..
 refine⟨g,⟨((hg.b hB).b mS).less (λj E=>?_),⟨[],[],jd,hr.b mS⟩,by rw[e1];exact hd⟩⟩;rcases E with E|E
 ·exact E
 ·cases E
end
end Rd
namespace Pl
open Fr Bd Zn Dz Sb Mg Rd
structure Mc where
 rc:Nat
 rz:Nat
 rd:Nat
 J:Nat
structure Ms where
 Q:List Sl
 V:Nat->Nd
 H:List (List Bl×List Bl)
 P:List (List Bl)
def QK (C:Dc)(M:Mc)(U ab4:Nat->Prop)(X:Nat->Option Obj)(S:Ds)(R:Ms)(w:World):Prop:=QD C.w0 C.N0 X C.c C.z C.d C.g M.rc M.rz M.rd M.J C.sz C.m C.mn C.lw C.hi C.k C.nb C.fm C.F C.fr U ab4 S.ab5 S.Q S.V S.ws S.pl S.ct R.Q R.V R.H R.P w
def Ds.ms (S:Ds):Ms:=⟨S.Q,S.V,HH S.ct S.ws,PP S.ct S.pl⟩
def jU (N mn:Int):Cf:=⟨1,λ_=>N,1,λ_=>1,λ_ _=>0,mn,mn,mn⟩
theorem JT (N mn:Int):¬(jU N mn).wide:=by
 unfold Cf.wide jU;simp only;rintro(h|h|⟨i,hi,h⟩)<;>omega
theorem SV {N mn:Int}(h:1<=N/\N<=256/\0<=mn):(jU N mn).is 0:=by
 have hs:(jU N mn).wJ:=⟨rfl,λi _=>rfl⟩;refine δ (δ ⟨rfl,?_,hs,?_⟩)
 ·unfold Cf.j7 jU;simp only;rintro(h|h|⟨i,hi,h⟩|⟨i,hi,k,D,h⟩|h|h|h)<;>omega
 ·unfold Cf.lL jU;simp only;rintro⟨i,hi,k,D,hne,h⟩;omega
theorem NU {N mn:Int}{i:Int}(h:(jU N mn).is i)(hn:¬(1<=N/\N<=256/\0<=mn)):0<i:=by
 rcases h with⟨rfl,_⟩|⟨rfl,_⟩|⟨_,h,_⟩
 ·omega
 ·omega
 ·exfalso;apply h;unfold Cf.j7 jU;simp only;by_cases G:N<1\/256<N
  ·exact δ (δ (ε ⟨0,by omega,G⟩))
  ·right;right;right;right;left;omega
structure JU (N mn sz:Int)(nw:Nat)(w0:World)(C:Dc)(S:Ds):Prop where
 hw:C.w0=w0
 hN:C.w0.heap.size<=C.N0
 D:C.k=1
 Cr:C.mn=mn
 hsz:C.sz=sz
 hm:(C.m:Int)=64/sz
 oH:C.fr 0=[0]
 Zc:S.Q=[]
 hpl:S.pl=[]
 Gx:S.ct=λ_=>[]
 dR:S.ws.length=nw
 hQ:S.ab5=0
 hfi:Np N.toNat C.m (S.V 0) [] 0
def rY (N mn sz nw:Int):Prop:=(1<=N/\N<=256/\0<=mn)/\(1<=sz/\sz<=64)/\1<=nw/\nw<=4
theorem yL (N mn sz nw:Int)(w:World)(e:Nat->Addr)(he:dM w e)(_hmx:mn<=9223372036854775807):
  Calls prog 13 #[.int .i64 N,.int .i64 mn,.int .i64 sz,.int .i64 nw] w λev w'=>(¬rY N mn sz nw/\ev=.returned (.tuple #[.pointer none,.pointer none,.bool false])/\Below w.heap.size w w') \/
   (rY N mn sz nw/\∃C M S,ev=.returned (.tuple #[.pointer (some ⟨C.d,0,none⟩),.pointer (some ⟨M.rd,0,none⟩),.bool true])/\JU N mn sz nw.toNat w C S/\QK C M (λ_=>False) (λ_=>False) (λ_=>none) S S.ms w'):=by
 have HE:=I he;clear he;obtain⟨m0,m1,m2,m3,m4,m5⟩:=MJ w _ _ _ _ #[.int .i64 N] #[.int .i64 0] #[.slice (some ⟨w.heap.size+1,0,none⟩) 1 1] #[.slice (some ⟨w.heap.size,0,none⟩) 1 1,.slice (some ⟨w.heap.size+1+1,0,none⟩) 1 1,.int .i64 mn,.int .i64 mn,.int .i64 mn] 3 3 38 122 rfl rfl rfl rfl;have HA:Hid (At ((((w.alloc (.cells #[.int .i64 N] 3)).alloc (.cells #[.int .i64 0] 3)).alloc (.cells #[.slice (some ⟨w.heap.size+1,0,none⟩) 1 1] 38)).alloc (.cells #[.slice (some ⟨w.heap.size,0,none⟩) 1 1,.slice (some ⟨w.heap.size+1+1,0,none⟩) 1 1,.int .i64 mn,.int .i64 mn,.int .i64 mn] 122)) (jU N mn) (some ⟨w.heap.size,0,none⟩) (some ⟨w.heap.size+1+1,0,none⟩)):=⟨λi hi=>by
  obtain rfl:i=0:=by have:i<1:=hi;omega
  exact⟨_,0,rfl,by omega,m0 0⟩,λi hi=>by
  obtain rfl:i=0:=by have:i<1:=hi;omega
  refine⟨_,0,some ⟨w.heap.size+1,0,none⟩,1,rfl,by omega,m2 0,λj E=>?_,λh=>by cases h⟩;obtain rfl:j=0:=by have:j<1:=E;omega
  exact⟨_,0,rfl,by omega,m1 0⟩⟩
 have BX:Vd ((((w.alloc (.cells #[.int .i64 N] 3)).alloc (.cells #[.int .i64 0] 3)).alloc (.cells #[.slice (some ⟨w.heap.size+1,0,none⟩) 1 1] 38)).alloc (.cells #[.slice (some ⟨w.heap.size,0,none⟩) 1 1,.slice (some ⟨w.heap.size+1+1,0,none⟩) 1 1,.int .i64 mn,.int .i64 mn,.int .i64 mn] 122)) (w.heap.size+1+1+1) (jU N mn) (some ⟨w.heap.size,0,none⟩) 1 (some ⟨w.heap.size+1+1,0,none⟩) 1:=⟨m3 0,m3 1,m3 2,m3 3,m3 4,by rw[m4];omega⟩;have F1:=m5;clear m0 m1 m2 m3 m4 m5;have HF:=I F1;have HX:=I BX;clear F1 BX;go_enter func13,ntmps13;go_upto_region 2 with(fail);generalize((((w.alloc (.cells #[.int .i64 N] 3)).alloc (.cells #[.int .i64 0] 3)).alloc (.cells #[.slice (some ⟨w.heap.size+1,0,none⟩) 1 1] 38)).alloc (.cells #[.slice (some ⟨w.heap.size,0,none⟩) 1 1,.slice (some ⟨w.heap.size+1+1,0,none⟩) 1 1,.int .i64 mn,.int .i64 mn,.int .i64 mn] 122))=W at*;have hwd:=JT N mn;obtain⟨x0,x1,x2,x3,x4,_⟩:=Z HX;simp only[jU]at x0 x1 x2 x3 x4;obtain⟨i,hi⟩:=Dz.Cf.Xr (jU N mn);have HIS:=I hi;have Ng:Hid (Calls prog 63 #[(.agg #[.slice (some ⟨w.heap.size,0,none⟩) 1 1,.slice (some ⟨w.heap.size+1+1,0,none⟩) 1 1,.int .i64 mn,.int .i64 mn,.int .i64 mn])] W λev w'=>ev=.returned (.int .i64 i)/\Below W.heap.size W w'):=(L0 (jU N mn) _ _ 1 1 W (Z HA) hwd).mono (λev w' hh=>by obtain⟨j,G,O,h3⟩:=hh;exact⟨by rw[G,Cf.ve O hi],h3⟩);by_cases hg:1<=N/\N<=256/\0<=mn;case neg =>
  have eO:=NU hi hg;have d2:decide (i>0)=true:=by simpa using eO
  have d3:decide ((0:Int)<i)=true:=by simpa using eO
  have hno:¬rY N mn sz nw:=λh=>hg h.1;clear hi hg;go_wp2_with fail;refine(Z Ng).mono ?_;rintro ev w3⟨rfl,b3⟩;go_wp2;refine Θ (v:=.tuple #[.pointer none,.pointer none,.bool false]) (by simp[results,results13,go_sem];try rfl) rfl ?_;exact ε ⟨hno,rfl,bW (Z HF) b3⟩
 obtain rfl:i=0:=Cf.ve hi (SV hg);by_cases hsz:1<=sz/\sz<=64;case neg =>
  have hno:¬rY N mn sz nw:=λh=>hsz h.2.1;have Vl:sz<1\/(¬sz<1/\64<sz):=by omega
  go_wp2_with fail;refine(Z Ng).mono ?_;rintro ev w3⟨rfl,b3⟩;rcases Vl with G|⟨G,O⟩
  ·have ds1:decide (sz<1)=true:=by simpa using G
   go_wp2;refine Θ (v:=.tuple #[.pointer none,.pointer none,.bool false]) (by simp[results,results13,go_sem];try rfl) rfl ?_;exact ε ⟨hno,rfl,bW (Z HF) b3⟩
  ·have ds1:decide (sz<1)=false:=by simpa using G
   have ds2:decide (sz>64)=true:=by simpa using O
   go_wp2;refine Θ (v:=.tuple #[.pointer none,.pointer none,.bool false]) (by simp[results,results13,go_sem];try rfl) rfl ?_;exact ε ⟨hno,rfl,bW (Z HF) b3⟩
 have ds1:decide (sz<1)=false:=by simp;omega
 have ds2:decide (sz>64)=false:=by simp;omega
 have ds3:¬sz<1:=by omega
 have ds4:¬64<sz:=by omega
 by_cases MM:1<=nw/\nw<=4;case neg =>
  have hno:¬rY N mn sz nw:=λh=>MM h.2.2;have aa3:nw<1\/(¬nw<1/\4<nw):=by omega
  go_wp2_with fail;refine(Z Ng).mono ?_;rintro ev w3⟨rfl,b3⟩;rcases aa3 with G|⟨G,O⟩
  ·have ds5:decide (nw<1)=true:=by simpa using G
   go_wp2;refine Θ (v:=.tuple #[.pointer none,.pointer none,.bool false]) (by simp[results,results13,go_sem];try rfl) rfl ?_;exact ε ⟨hno,rfl,bW (Z HF) b3⟩
  ·have ds5:decide (nw<1)=false:=by simpa using G
   have ds6:decide (nw>4)=true:=by simpa using O
   go_wp2;refine Θ (v:=.tuple #[.pointer none,.pointer none,.bool false]) (by simp[results,results13,go_sem];try rfl) rfl ?_;exact ε ⟨hno,rfl,bW (Z HF) b3⟩
 obtain⟨nn,rfl⟩:=bw (show 0<=nw by omega);have dn1:decide ((nn:Int)<1)=false:=by simp;omega
 have dn2:decide ((nn:Int)>4)=false:=by simp;omega
 have dn3:¬(nn:Int)<1:=by omega
 have dn4:¬(4:Int)<nn:=by omega
 have Qc:1<=nn/\nn<=4:=by omega
 go_wp2_with fail;refine(Z Ng).mono ?_;rintro ev w3⟨rfl,b3⟩;have G3:=bW (Z HF) b3;have BX3:=I ((Z HX).b b3);have Qd:=(Z HA).b b3;have HCO:Hid (Calls prog 65 #[(.agg #[.slice (some ⟨w.heap.size,0,none⟩) 1 1,.slice (some ⟨w.heap.size+1+1,0,none⟩) 1 1,.int .i64 mn,.int .i64 mn,.int .i64 mn])] w3 λev w'=>∃p' q' Vj Vk,ev=.returned (sK (jU N mn) p' Vj q' Vk)/\At w' (jU N mn) p' q'/\Below w3.heap.size w3 w'):=Mi (jU N mn) _ _ 1 1 w3 Qd hwd (λh=>by cases h);have HA3:=I Qd;obtain⟨z0,z1,z2,z3,z4,_⟩:=Z BX3;simp only[jU]at z0 z1 z2 z3 z4;clear x0 x1 x2 x3 x4 Ng HA HX Qd;go_wp2_with fail;refine(Z HCO).mono ?_;rintro ev w4⟨p',q',Vj,Vk,rfl,A4,b4⟩;have G4:=bW G3 b4;have BX4:=I ((Z BX3).b b4);have HA4:=I ((Z HA3).b b4);have HN:=I (MG (jU N mn) p' q' Vj Vk w4 e ((Z HE).below G4).three A4 hwd (Z HIS));unfold sK at*;clear HCO z0 z1 z2 z3 z4 BX3 A4 HA3;go_wp2_with fail;refine(Z HN).mono ?_;rintro ev w5⟨z,nb,fm,F,rfl,D5,fr5,b5⟩;have G5:=I (bW G4 b5);have BX5:=I ((Z BX4).b b5);have Bt:=I ((Z HA4).b b5);have Dg:Hid (∀i,i<(jU N mn).n->w.heap.size<=fm i/\w.heap.size<=F i):=λi hi=>by have:=fr5 i hi;have:=G4.size;omega
 have Xt:w.heap.size<=w5.heap.size:=(Z G5).size;have M8:=I D5;clear HN BX4 fr5 b4 D5 b5 G3 G4 HF HA4 b3;have Io:=I (MV w.heap.size z sz w5 hsz.1 hsz.2 Xt);unfold ptr at*;go_wp2_with fail;refine(Z Io).mono ?_;rintro ev w6⟨x,m,ly,rfl,hC,hl6,Nq,b6⟩;have P6:=I (Sd (nb:=nb) (fm:=fm) (F:=F) (Z M8) b6 hl6 hC (Z Dg) (by show 1<=20;omega));have G6:=I (bW (Z G5) b6);have BX6:=I ((Z BX5).b b6);have HA6:=I ((Z Bt).b b6);have CZ:=I Nq;have lY:=I hC.mm;have h6N:w.heap.size<=w6.heap.size:=(Z G6).size;clear Io hC hl6 Nq b6 M8 G5 BX5 Bt;have HDW:=I (Nk w.heap.size x nn w6 h6N Qc);go_wp2_with fail;refine(Z HDW).mono ?_;rintro ev w7⟨rfl,ws,dR,D7⟩;have HD7:=I D7;have G7:=I (bW (Z G6) D7.b);have BX7:=I ((Z BX6).b D7.b);have hA7:=(Z HA6).b D7.b;obtain⟨z0,z1,z2,z3,z4,_⟩:=Z BX7;simp only[jU]at z0 z1 z2 z3 z4;obtain⟨Lt,MH,hP,hm,hM,hD,Cr,nO,hlh⟩:=Cf.zero (Z HIS);have HNZ:Hid (Calls prog 69 #[(.agg #[.slice (some ⟨w.heap.size,0,none⟩) 1 1,.slice (some ⟨w.heap.size+1+1,0,none⟩) 1 1,.int .i64 mn,.int .i64 mn,.int .i64 mn])] w7 λev w'=>∃z nb,ev=.returned (ptr z)/\RZ w' z (jU N mn).mn (jU N mn).lw (jU N mn).hi (jU N mn).n nb (kR (jU N mn).P) (λi=>iC ((jU N mn).ab8 i) (jU N mn).n 1001)/\Below w7.heap.size w7 w'/\NAt w7 w' z (jU N mn).n/\w7.heap.size<=z/\∀i,i<(jU N mn).n->w7.heap.size<=nb i):=JS (jU N mn) _ _ 1 1 w7 hA7 Lt MH hm hM hP (λi hi=>aU.1 (by have:=(rq (hD i hi)).1;omega));clear HDW D7 BX6 HA6 hA7 BX7 Lt MH hP hm hM hD Cr nO hlh;go_wp2_with fail;refine(Z HNZ).mono ?_;rintro ev jD⟨rz,jd,rfl,R10,iv,⟨gN,cN,e5,hgN⟩,TM,Xu⟩;have SX:=χ (γ jD.heap.size jD) (.cells #[.pointer (some ⟨rz,0,none⟩),.int .i64 sz,.slice none 0 0] 140);have n11:=θ jD #[.pointer (some ⟨rz,0,none⟩),.int .i64 sz,.slice none 0 0] 140;have aa4:w7.heap.size<=jD.heap.size:=iv.size;have hs7:w.heap.size<=w7.heap.size:=(Z G7).size;have Xv:RC w.heap.size (jD.alloc (.cells #[.pointer (some ⟨rz,0,none⟩),.int .i64 sz,.slice none 0 0] 140)) jD.heap.size rz sz m [] [] []:=⟨n11 0,n11 1,⟨none,0,n11 2,Ξ _ _ _ _⟩,bB _ _ _,by omega,rfl,rfl,dm,(λt ht=>by cases ht),(λi b t s h=>by simp at h),λo=>aG _ _ jD.heap.size o rfl⟩;have Xw:Hid (RR w.heap.size (jD.alloc (.cells #[.pointer (some ⟨rz,0,none⟩),.int .i64 sz,.slice none 0 0] 140)) jD.heap.size rz sz m [] [] [] (jU N mn).mn (jU N mn).lw (jU N mn).hi (jU N mn).n jd (kR (jU N mn).P) (λi=>iC ((jU N mn).ab8 i) (jU N mn).n 1001)):=by
  refine⟨R10.b SX,Xv,λi hi=>by have:=Xu i hi;omega,λg cp K=>?_⟩;have G:(jD.alloc (.cells #[.pointer (some ⟨rz,0,none⟩),.int .i64 sz,.slice none 0 0] 140)).cell? ⟨rz,5,none⟩=jD.cell? ⟨rz,5,none⟩:=SX.cell (p:=⟨rz,5,none⟩) R10.tg.lt;rw[G,e5]at K;simp only[τ,ψ,av]at K;obtain⟨⟨rfl,_⟩,_⟩:=K;omega
 have Xx:=I (bW iv SX);have Xy:=I (JF w.heap.size jD.heap.size nn Qc (jD.alloc (.cells #[.pointer (some ⟨rz,0,none⟩),.int .i64 sz,.slice none 0 0] 140)) (by have:=SX.size;omega) (λ_=>False));clear HNZ z0 z1 z2 z3 z4 R10 iv e5 hgN TM Xu SX n11 Xv aa4;unfold ptr at*;go_wp2_with fail;generalize jD.alloc (.cells #[.pointer (some ⟨rz,0,none⟩),.int .i64 sz,.slice none 0 0] 140)=W11 at*;generalize jD.heap.size=rc at*;refine(Z Xy).mono ?_;rintro ev Xz⟨rd,J,rfl,D12,Py⟩;obtain⟨g,Q12⟩:=QD.new (Z P6) (Z G6) h6N (Z CZ) (by omega) (Z HD7) (Z Xx) (Z Xw) Py (by rw[dR];exact D12);have hP1:1<=(jU N mn).P 0:=hg.1;have QY:(jU N mn).P 0<=256:=hg.2.1;have XA:Np N.toNat m (kR (jU N mn).P 0) [] 0:=⟨vA hP1 QY,by rw[Ns hP1 QY];show N+0=(N.toNat:Int);omega,rfl,λs hs=>by cases hs⟩;have SY:=I Q12;have HFI:=I XA;clear Xy D12 Py Q12 P6 CZ HD7 Xx Xw XA hP1 QY hs7;go_wp2;refine Θ (v:=.tuple #[.pointer (some ⟨w6.heap.size,0,none⟩),.pointer (some ⟨rd,0,none⟩),.bool true]) (by simp[results,results13,go_sem];try rfl) rfl ?_;refine δ ⟨⟨hg,hsz,by omega⟩,⟨w,w.heap.size,x,z,w6.heap.size,g,sz,m,mn,mn,mn,1,nb,fm,F,λi=>iC ((jU N mn).ab8 i) (jU N mn).n 1001⟩,⟨rc,rz,rd,J⟩,⟨0,[],kR (jU N mn).P,ws,[],λ_=>[]⟩,rfl,⟨rfl,ζ _,rfl,rfl,rfl,(Z lY).2.2,Rn,rfl,rfl,rfl,by simp[dR],rfl,Z HFI⟩,?_⟩;exact⟨(Z SY).q.less (λj E=>by rcases E with h|h<;>cases h),(Z SY).r,(Z SY).d⟩
end Pl
namespace Pl
open Fr Bd Zn Dz Sb Mg
end Pl
end Go.Proofs.YtcbmfakjfoggaaaGreatDoor
