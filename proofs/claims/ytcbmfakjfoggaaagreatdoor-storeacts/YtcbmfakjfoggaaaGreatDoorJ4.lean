/- J4 -/
import Derived.Test.YtcbmfakjfoggaaaGreatDoorA0
import Derived.Test.YtcbmfakjfoggaaaGreatDoorJ1
import Derived.Test.YtcbmfakjfoggaaaGreatDoorH09
import Derived.Test.YtcbmfakjfoggaaaGreatDoorH26
import Derived.Test.YtcbmfakjfoggaaaGreatDoorH30
set_option maxHeartbeats 0
set_option maxRecDepth 100000
namespace Go.Proofs.YtcbmfakjfoggaaaGreatDoor
open _root_.Go.Proofs.Tryz Go.RowKit Go.Maps Go.Sort Go.Shelf
def nR:Go.Shelf.Ren:=⟨fun|7=>106|10=>179|n=>n,fun|23=>187|26=>3|3=>190|28=>195|0=>0|27=>194|33=>146|4=>4|n=>n,fun|n=>n⟩
theorem BA:Go.Proofs.SlLaysZI.n7 prog nR:={
 mixed:=by kernel_rfl
 f7:=⟨Tryz.f106.name,by decide,func106.trans (ba some (by kernel_rfl))⟩
 f10:=⟨Tryz.f179.name,by decide,func179.trans (ba some (by kernel_rfl))⟩
 t0:=underlying0
 a0:=Tryz.isAgg0
 z0:=Tryz.sizeOf0
 v0:=Tryz.zeroValue0
 t4:=underlying4
 a4:=Tryz.isAgg4
 z4:=Tryz.sizeOf4
 v4:=Tryz.zeroValue4
 t23:=underlying187
 a23:=Tryz.isAgg187
 z23:=Tryz.sizeOf187
 v23:=Tryz.zeroValue187
 t26:=underlying3
 a26:=Tryz.isAgg3
 z26:=Tryz.sizeOf3
 v26:=Tryz.zeroValue3
 t27:=underlying194
 a27:=Tryz.isAgg194
 z27:=Tryz.sizeOf194
 v27:=Tryz.zeroValue194
 t28:=underlying195
 a28:=Tryz.isAgg195
 z28:=Tryz.sizeOf195
 v28:=Tryz.zeroValue195
 t33:=underlying146
 a33:=Tryz.isAgg146
 z33:=Tryz.sizeOf146
 v33:=Tryz.zeroValue146}
namespace Pl
open Fr Bd Zn Dz Sb Mg
theorem wB (mb:Nat)(W:World):Calls prog 106 #[.map (some mb)] W λe w'=>e=.returned (.func (.func 179) #[] #[.pointer (some ⟨W.heap.size,0,none⟩)])/\w'=W.alloc (.cells #[.map (some mb)] 187):=
 (callsIn_wide (n:=5)).1 (AnyZI.keys_in BA Fence.wide 5 trivial rfl (some mb) W)
theorem wF {R:Value->Option (DataW Unit×List MemPlace)}{w:World}{b n:Nat}{ab8:DataW Unit}(hown:w.ownsMap prog 3 R b n ab8):(intKeys ab8).Nodup/\∀x,x∈intKeys ab8↔Maps.has ab8 (.int .i64 x)=true:=by
 obtain⟨es,hD,hp,_⟩:=hown.entries law;obtain⟨es',um,hko⟩:=hown.keysOf;obtain rfl:es=es':=by rw[hD]at um;simpa using um
 subst hD;have D:∀p∈es,∃x,p.1=.int .i64 x:=λp hp=>by obtain⟨v,hv⟩:=hko p hp;obtain⟨x,_,hx,_⟩:=Maps.keyOf_i64 underlying3 hv;exact⟨x,hx⟩
 refine⟨?_,λx=>?_⟩
 ·show(es.map λp=>Go.intOf p.1).Nodup;refine List.pairwise_map.2 (hp.imp_of_mem fun {p q} sx hq' hne e=>hne ?_);obtain⟨a,ha⟩:=D p sx;obtain⟨b,J⟩:=D q hq';rw[ha,J]at e ⊢;exact ba _ e
 ·rw[Maps.has_eq,gG];show x∈es.map (λp=>Go.intOf p.1)↔_;rw[eV];constructor
  ·rintro⟨p,sx,rfl⟩;obtain⟨a,ha⟩:=D p sx;exact⟨p,sx,by rw[ha];simp[Lit.sameKey,Go.intOf]⟩
  ·rintro⟨p,sx,hs⟩;obtain⟨a,ha⟩:=D p sx;rw[ha]at hs;exact⟨p,sx,by rw[ha];simpa[Lit.sameKey,Go.intOf]using hs⟩
structure wI (f:Int->Option Nat)(ids:List Int):Prop where
 so:ids.Pairwise (· < ·)
 mem:∀t,t∈ids↔(Lit.int .i64 t).wf=true/\(f t).isSome=true
theorem qw {Q l:List Int}(hp:Q.Perm l)(hn:l.Nodup):(Q.mergeSort (λx y=>decide (x<=y))).Pairwise (· < ·)/\∀t,t∈Q.mergeSort (λx y=>decide (x<=y))↔t∈l:=by
 have tr:∀a b c:Int,decide (a<=b)=true->decide (b<=c)=true->decide (a<=c)=true:=λa b c G O=>by simp only[dh]at*;exact Int.le_trans G O
 have to:∀a b:Int,(decide (a<=b)||decide (b<=a))=true:=λa b=>by simp only[Bool.or_eq_true,dh];exact Int.le_total a b
 have hs:=List.pairwise_mergeSort tr to Q;have Sp:=(List.mergeSort_perm Q (λx y=>decide (x<=y))).trans hp;have hnd:=Sp.nodup_iff.2 hn;refine⟨?_,λt=>Sp.mem_iff⟩;refine(List.pairwise_and_iff.2 ⟨hs,hnd⟩).imp ?_;rintro a b⟨G,O⟩;simp only[dh]at G;omega
section
variable {B:Nat}{w w':World}{s p m q n:Nat}{S:cu}{f:Int->Option Nat}
theorem zu (h:gB w m q f n)(hn:n<=1000000):Calls prog 105 #[.func (.func 179) #[] #[.pointer (some ⟨w.heap.size,0,none⟩)]] (w.alloc (.cells #[.map (some m)] 187)) λev w'=>∃v ids,ev=.returned v/\w'.ownsRow w.heap.size 3 1 v ids.length (ids.map (Value.int .i64))/\wI f ids/\ids.length=n/\Below w.heap.size w w':=by
 obtain⟨ab8,hown,hf,hsz⟩:=h.own;have hbl:=hown.lt;have sG:Maps.size ab8<=maxLen:=by rw[hsz];unfold maxLen;omega
 have hbytes:Maps.size ab8*8<=140737488355328:=by rw[hsz];omega
 obtain⟨kX,jE⟩:=wF hown;have kw:=intKeys_wf hown underlying3;have hseq:SeqGives Fence.wide 2 prog 179 #[.pointer (some ⟨w.heap.size,0,none⟩)] encZ (λQ=>Q.Perm (intKeys ab8)) (Maps.size ab8) (w.alloc (.cells #[.map (some m)] 187)):=
  AnyZI.keys_gives (ρ:=nR) {BA with} Fence.wide _ trivial rfl (by omega) w.heap.size m q ab8 _ (by simp) (by simp) (by
   obtain⟨es,clock,J,Ft,hs,hD⟩:=hown;exact⟨es,clock,(Below.heap_alloc _ _ m hbl).trans J,Ft,hs,hD⟩)
 have cS:=AnyZI.sorted_in Lu Fence.wide 5 trivial trivial trivial trivial rfl (by omega) (Bd.QL _) (fy func178 (by kernel_rfl) rfl) 179 #[.pointer (some ⟨w.heap.size,0,none⟩)] trivial (fy func179 (by kernel_rfl) rfl) _ _ sG hbytes _ hseq;change CallsIn _ _ prog 105 _ _ _ at cS;refine((callsIn_wide (n:=5)).1 cS).mono ?_;rintro e w'⟨v,Q,rfl,hS,hrow,hnil,J⟩;obtain⟨s1,s2⟩:=qw hS kX;have hlen:(Q.mergeSort (λx y=>decide (x<=y))).length=Q.length:=List.length_mergeSort Q;have rH:Q.length=n:=by
  rw[hS.length_eq,<- hsz];obtain⟨es,rfl,_⟩:=hown.keysOf;simp[intKeys,Maps.size]
 refine⟨v,_,rfl,?_,⟨s1,λt=>?_⟩,hlen.trans rH,((γ _ w).alloc (ζ _) _).trans (J.mono (by simp))⟩
 ·rw[hlen];exact ownsRow_base_a hrow (show w.heap.size<=_ by simp)
 ·rw[s2 t,jE t];constructor
  ·intro hh;have hw:=kw t ((jE t).2 hh);exact⟨hw,by rw[<- (hf t hw).1];exact hh⟩
  ·rintro⟨hw,hh⟩;rw[(hf t hw).1];exact hh
theorem Ca (h:bg B w s p m S)(hn:S.n<=1000000):Calls prog 43 #[.pointer (some ⟨s,0,none⟩)] w λev w'=>∃v ids,ev=.returned v/\w'.ownsRow w.heap.size 3 1 v ids.length (ids.map (Value.int .i64))/\wI S.f ids/\ids.length=S.n/\Below w.heap.size w w':=by
 have c3:=h.c3;have HK:=I (wB m w);have HI:=I (zu h.bq hn);clear h;go_enter func43,ntmps43;go_wp2_with fail;refine(Z HK).mono ?_;rintro ev w1⟨rfl,rfl⟩;clear HK;go_wp2_with fail;refine(Z HI).mono ?_;rintro ev w2⟨v,ids,rfl,ho,hi,hl,J⟩;have HF:Hid (w2.ownsRow w.heap.size 3 1 v ids.length (ids.map (Value.int .i64))/\wI S.f ids/\ids.length=S.n/\Below w.heap.size w w2):=⟨ho,hi,hl,J⟩;clear HI ho hi hl J c3;go_wp2;go_ret;exact⟨v,ids,rfl,Z HF⟩
end
end Pl
end Go.Proofs.YtcbmfakjfoggaaaGreatDoor
namespace Go.Proofs.YtcbmfakjfoggaaaGreatDoor
open _root_.Go.Proofs.Tryz Go.RowKit Go.Maps
namespace Pl
open Fr Bd Zn Dz Sb Mg
section
variable {B:Nat}{C:Dc}{ab7:Nat->Prop}{X:Nat->Option Obj}{Y F ym m s:Nat}{S S':Ds}{P P':Ps}{w w' w3:World}{ax:cu}{e:Nat->Addr}
theorem bg.gone (h:bg B w s Y m ax) {t:Int} {b:Nat} (hf:ax.f t=some b) (Pp:gB w3 m ax.q (mE ax.f t none) (ax.n-1)) (hs:w3.heap[s]?=w.heap[s]?) (D:∀t' b',t'≠t->ax.f t'=some b'->w3.heap[b']?=w.heap[b']?/\w3.heap[(ax.g b').q]?=w.heap[(ax.g b').q]?):bg B w3 s Y m {ax with f:=mE ax.f t none,n:=ax.n-1}:=by
 have K:=λj=>η (w:=w) (a:=⟨s,j,none⟩) hs
 have hn:∀t' b',mE ax.f t none t'=some b'->t'≠t/\ax.f t'=some b':=λt' b' e=>by
  by_cases htt:t'=t
  ·subst htt;rw[l8]at e;cases e
  ·rw[l5 htt]at e;exact⟨htt,e⟩
 exact{h with
  c0:=(K 0).trans h.c0,c1:=(K 1).trans h.c1,c2:=(K 2).trans h.c2,c3:=(K 3).trans h.c3,c4:=(K 4).trans h.c4
  tg:=h.tg.blk hs
  fz:=λo=>(π (w:=w) (a:=⟨s,o,none⟩) hs).trans (h.fz o)
  bq:=Pp
  k:=λt' b' e=>by
   obtain⟨e1,e2⟩:=hn t' b' e
   obtain⟨k1,k2⟩:=h.k t' b' e2
   obtain⟨a1,a2⟩:=D t' b' e1 e2
   exact⟨k1.keep a1 a2,k2⟩
  inj:=λt1 t2 b' e1 e2=>h.inj t1 t2 b' (hn t1 b' e1).2 (hn t2 b' e2).2
  rows:=λt1 t2 b1 b2 e1 e2=>h.rows t1 t2 b1 b2 (hn t1 b1 e1).2 (hn t2 b2 e2).2}
theorem wL (h:bg B w s Y m ax)(hx:X m=w'.heap[m]?)(sB:w'.heap[m]?=w.heap[m]?)(hd:PD B C ab7 X Y F ym S' P' w3)(Gi:PD B C ab7 X Y F ym S P w')(_hf:PF ab7 P P' w' w3):w3.heap[m]?=w.heap[m]?:=by
 obtain⟨o,e1,e2⟩:=h.bq.aQ;have mN:=(hx.trans sB).trans e1;have O:X2 F ym X w3 m=some o:=by
  unfold X2;rw[ai,mN];rintro(rfl|rfl)
  ·rw[Gi.xt.1]at mN;cases mN
  ·rw[Gi.xt.2]at mN;cases mN
 exact(hd.k.map O).1.trans e1.symm
end
theorem ints_at {w:World}{B k cp j:Nat}{p:Option Addr}{l:List Nat}(h:w.ownsRow B 3 1 (.slice p k cp) k (dX l))(hl:l.length=k)(E:j<k):∃g x,p=some ⟨g,0,none⟩/\l[j]?=some x/\w.cell? ⟨g,j,none⟩=some (.int .i64 (x:Int)):=by
 obtain⟨g,cap,e,_⟩:=h.form (by omega);simp only[ψ]at e;obtain⟨rfl,_,rfl⟩:=e;have hx:l[j]?=some l[j]:=ξ (by omega);refine⟨g,l[j],rfl,hx,(h.cellAt j (by omega)).trans ?_⟩;simp[dX,hx]
theorem eC {w:World}{B1 B2 n c1 c2:Nat}{p1 p2:Option Addr}{L:List Nat}(G:w.ownsRow B1 3 1 (.slice p1 n c1) n (dX L))(O:w.ownsRow B2 3 1 (.slice p2 n c2) n (dX L))(hL:L.length=n)(hn:n<=1000):
  Calls prog 32 #[.slice p1 n c1,.slice p2 n c2] w λev w'=>ev=.returned (.bool true)/\Below w.heap.size w w':=by
 have H1:=I G;have H2:=I O;have HL:=I hL;clear G O hL;go_enter func32,ntmps32;go_wp2_with fail;go_loopw [5] (λs wr=>∃j:Nat,s=.int .i64 j/\j<=n/\Hid (Below w.heap.size w wr)) (λs _=>n-(intOf s).toNat)
 case atStart=>exact⟨0,rfl,Γ _,γ _ _⟩
 case round =>
  obtain⟨j,rfl,E,HB⟩:=hrel;have Cn:(0:Int)<=j:=by omega
  have hwj:IntKind.i64.wrap ((j:Int)+1)=(j:Int)+1:=aB _ (by omega);by_cases pS:j<n
  ·have qm:(j:Int)<n:=by omega
   obtain⟨g1,x1,rfl,e1,y1⟩:=ints_at (aN (Z H1) (Z HB)) (Z HL) pS;obtain⟨g2,x2,rfl,e2,y2⟩:=ints_at (aN (Z H2) (Z HB)) (Z HL) pS;rw[e1]at e2;obtain rfl:=ah e2;have hd:decide ((x1:Int)=x1)=true:=by simp
   clear e1 e2;go_wp2_with fail;go_quiet (fail);go_wp2_with fail;go_roundw;case rel=>exact⟨j+1,by go_num,by omega,iB (Z HB) _⟩
   case measure=>simp[intOf];omega
  ·obtain rfl:j=n:=by omega
   have kn:¬(j:Int)<j:=by omega
   go_wp2_with fail;go_ret;exact⟨rfl,Z HB⟩
end Pl
end Go.Proofs.YtcbmfakjfoggaaaGreatDoor
