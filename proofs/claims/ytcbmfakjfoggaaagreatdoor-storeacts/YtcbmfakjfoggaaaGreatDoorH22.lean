/- H22 -/
import Derived.Test.YtcbmfakjfoggaaaGreatDoorA0
import Derived.Test.YtcbmfakjfoggaaaGreatDoorH19
import Derived.Test.YtcbmfakjfoggaaaGreatDoorH20
import Derived.Test.YtcbmfakjfoggaaaGreatDoorH17
import Derived.Test.YtcbmfakjfoggaaaGreatDoorH18
set_option maxHeartbeats 0
set_option maxRecDepth 100000
namespace Go.Proofs.YtcbmfakjfoggaaaGreatDoor
open _root_.Go.Proofs.Tryz Go.RowKit Go.Maps
namespace Dz
open Fr Bd Zn
def VK (z:Nat)(mn lw hi:Int)(k:Nat)(nb fm F:Nat->Nat)(V:Nat->Nd)(fr:Nat->List Nat)(x o:Int)(u:Bool)(e:Nat->Addr)(w:World)(ev:Ending)(w':World):Prop :=
 (∃a:Nat,a<10/\ev=.returned (.tuple #[.agg #[.int .i64 0,.int .i64 0,.int .i64 0],.iface 424 (.pointer (some (e a)))])/\Below w.heap.size w w'/\((a=1/\(¬(0<=x/\x<k)\/o<0\/6<o))\/∃x':Nat,x=x'/\x'<k/\0<=o/\o<=6/\(fr x').find? (λi=>fA o mn u (V i)==2)=none/\a=if(fr x').any (λi=>fA o mn u (V i)==1)then 6 else 4)) \/
 ∃(x' i:Nat) (at':Int),x=x'/\x'<k/\0<=o/\o<=6/\(fr x').find? (λi=>fA o mn u (V i)==2)=some i/\i<k/\at'=mO o (V i)/\ev=.returned (.tuple #[.agg #[.int .i64 (i:Int),.int .i64 at',.int .i64 o],.nilIface])/\DZ w' z mn lw hi k nb fm F (up V i (kC o (V i))) fr/\Kept (fm i) (F i) w w'
theorem MJ (w:World)(A B C ab8:Obj)(cA cB cC cD:Array Value)(tA tB tC tD:TypeId)(hA:A=.cells cA tA)(hB:B=.cells cB tB)(hC:C=.cells cC tC)(hD:ab8=.cells cD tD):
  (∀j,((((w.alloc A).alloc B).alloc C).alloc ab8).cell? ⟨w.heap.size,j,none⟩=cA[j]?)/\(∀j,((((w.alloc A).alloc B).alloc C).alloc ab8).cell? ⟨w.heap.size+1,j,none⟩=cB[j]?)/\(∀j,((((w.alloc A).alloc B).alloc C).alloc ab8).cell? ⟨w.heap.size+2,j,none⟩=cC[j]?)/\(∀j,((((w.alloc A).alloc B).alloc C).alloc ab8).cell? ⟨w.heap.size+3,j,none⟩=cD[j]?)/\((((w.alloc A).alloc B).alloc C).alloc ab8).heap.size=w.heap.size+4/\Below w.heap.size w ((((w.alloc A).alloc B).alloc C).alloc ab8):=by
 subst hA hB hC hD;have s1:(w.alloc (.cells cA tA)).heap.size=w.heap.size+1:=by simp
 have s2:((w.alloc (.cells cA tA)).alloc (.cells cB tB)).heap.size=w.heap.size+2:=by simp
 have s3:(((w.alloc (.cells cA tA)).alloc (.cells cB tB)).alloc (.cells cC tC)).heap.size=w.heap.size+3:=by simp
 refine⟨λj=>?_,λj=>?_,λj=>?_,λj=>?_,by simp,χ (χ (χ (χ (γ _ _) _) _) _) _⟩
 ·exact((χ (χ (χ (γ _ _) _) _) _).cell (p:=⟨w.heap.size,j,none⟩) (by rw[s1];simp)).trans (θ w cA tA j)
 ·have q:=θ (w.alloc (.cells cA tA)) cB tB j;rw[s1]at q;exact((χ (χ (γ _ _) _) _).cell (p:=⟨w.heap.size+1,j,none⟩) (by rw[s2];simp)).trans q
 ·have q:=θ ((w.alloc (.cells cA tA)).alloc (.cells cB tB)) cC tC j;rw[s2]at q;exact((χ (γ _ _) _).cell (p:=⟨w.heap.size+2,j,none⟩) (by rw[s3];simp)).trans q
 ·have q:=θ (((w.alloc (.cells cA tA)).alloc (.cells cB tB)).alloc (.cells cC tC)) cD tD j;rw[s3]at q;exact q
theorem Rn:iC (λ_=>(0:Int)) 1 1001=[0]:=(H_ (by omega) (by simp) (by simp)).symm
end Dz
namespace Sb
open Fr Bd Zn Dz
variable {mn:Int}{V:Nat->Nd}{Q:List Sl}{i:Nat}
def Ow (k:Nat)(V:Nat->Nd)(Q:List Sl):Prop:=∀s∈Q,s.V<k/\(s.at_,0)∈(V s.V).T
theorem qG {u:Bool}{d:Nd}(eH:d.ok)(h:fA 0 mn u d=2):0<=mO 0 d/\mO 0 d<256/\(∀t∈d.T,t.1≠mO 0 d)/\(mO 0 d,0)∈(kC 0 d).T/\∀t∈d.T,t∈(kC 0 d).T:=by
 cases hf:fit 0 d.aca with
 |none=>simp[fA,hf]at h
 |some y =>
  have e1:mO 0 d=y.1:=by simp[mO,hf]
  have e2:(kC 0 d).T=Bd.ins (y.1,0) d.T:=by simp[kC,hf]
  obtain⟨hy,uV⟩:=iQ hf;have eY:=eH.2.2.Ov hy;have TF:=cy y.2;have hno:∀t∈d.T,t.1≠y.1:=λt ht e=>by
   have:=(eH.2.2.zL hy).GN ht;omega
  rw[e1,e2];exact⟨eY.1,by have:=eH.2.1;omega,hno,nI _ _,λt ht=>sA ht (hno t ht)⟩
theorem Ow.fresh {k:Nat}(h:Ow k V Q){u:Bool}(eH:(V i).ok)(ht:fA 0 mn u (V i)=2):∀s∈Q,s.V=i->s.at_≠mO 0 (V i):=λs hs e he=>by
 have:=(h s hs).2;rw[e]at this;exact(qG eH ht).2.2.1 _ this he
theorem Ow.take {k:Nat}(h:Ow k V Q){u:Bool}(_hi:i<k)(eH:(V i).ok)(ht:fA 0 mn u (V i)=2):Ow k (up V i (kC 0 (V i))) Q:=λs hs=>by
 refine⟨(h s hs).1,?_⟩;by_cases e:s.V=i
 ·rw[e,gJ];have:=(h s hs).2;rw[e]at this;exact(qG eH ht).2.2.2.2 _ this
 ·rw[fj _ _ e];exact(h s hs).2
theorem Ow.ins {k:Nat}(h:Ow k V Q){x:Sl}(hx:x.V<k/\(x.at_,0)∈(V x.V).T)(q:Nat):Ow k V (Sb.ins Q q x):=λs hs=>by
 rcases nV.mp hs with rfl|h'
 ·exact hx
 ·exact h s h'
theorem Ow.set {k:Nat}(h:Ow k V Q){j:Nat}{s:Sl}(hs:Q[j]?=some s)(b:Nat):Ow k V (Q.set j {s with bm:=b}):=λs' hs'=>by
 rcases gK hs' with G|rfl
 ·exact h s' G
 ·exact h s (aH hs)
structure PS (N0:Nat)(w:World)(c z:Nat)(ly:Ly)(sz:Int)(m:Nat)(bs:List Nat)(Q:List Sl)(mn lw hi:Int)(k:Nat)(nb fm F:Nat->Nat)(V:Nat->Nd)(fr:Nat->List Nat):Prop where
 d:DZ w z mn lw hi k nb fm F V fr
 c:DC N0 w c z ly sz m bs Q
 ow:Ow k V Q
 mf:∀i,i<k->N0<=fm i/\N0<=F i
 k4:k<=20
 ml:∀i,i<k->∀j,Lk ly j->j≠fm i/\j≠F i
section
variable {N0:Nat}{w w':World}{c z:Nat}{ly:Ly}{sz:Int}{m:Nat}{bs:List Nat}{Q:List Sl}{mn lw hi:Int}{k:Nat}{nb fm F:Nat->Nat}{V:Nat->Nd}{fr:Nat->List Nat}
theorem PS.b (h:PS N0 w c z ly sz m bs Q mn lw hi k nb fm F V fr)(J:Below w.heap.size w w'):PS N0 w' c z ly sz m bs Q mn lw hi k nb fm F V fr:=⟨h.d.b J,h.c.b J,h.ow,h.mf,h.k4,h.ml⟩
theorem o_ (h:PS N0 w c z ly sz m bs Q mn lw hi k nb fm F V fr):Q.length<=10000:=by
 have hs:=h.c.so;have eH:=h.c.ok;have ho:=h.ow;have D:=h.k4;let f:Sl->Int×Int:=λs=>((s.V:Int)*256+s.at_,0);have hp:pP (Q.map f):=by
  unfold pP;rw[List.pairwise_map];refine List.Pairwise.imp_of_mem (λha J hl=>?_) hs;have G:=eH _ ha;have O:=eH _ J;unfold KP at G O;unfold lt at hl;simp only[f];omega
 have:=je (l:=Q.map f) (a:=0) (b:=256*20) hp (λx hx=>by
  obtain⟨s,hs',rfl⟩:=eV.1 hx;have G:=eH s hs';have O:=(ho s hs').1;unfold KP at G;simp only[f];omega)
 rw[eT]at this;omega
end
variable {W w w':World}{N r:Nat}{v:Value}{ts:List (Option TypeId)}
structure Rx (w:World)(r:Nat)(u v:Value):Prop where
 c0:w.cell? ⟨r,0,none⟩=some u
 c1:w.cell? ⟨r,1,none⟩=some v
 fz:∀o,w.frozen? ⟨r,o,none⟩=false
 tg:Tag w r 34
theorem Rx.blk {u:Value}(h:Rx w r u v)(J:w'.heap[r]?=w.heap[r]?):Rx w' r u v :=
 ⟨(η (a:=⟨r,0,none⟩) J).trans h.c0,(η (a:=⟨r,1,none⟩) J).trans h.c1,λo=>(π (a:=⟨r,o,none⟩) J).trans (h.fz o),h.tg.blk J⟩
theorem Rx.b {u:Value}(h:Rx w r u v)(J:Below w.heap.size w w'):Rx w' r u v:=h.blk (J.block r h.tg.lt)
theorem Rx.c {u:Value}(h:Rx w r u v)(K:bD ts N w w')(hn:some 34∉ts):Rx w' r u v:=h.blk (K.same h.tg hn)
theorem cQ (w:World):Rx (w.alloc (cB 0 0)) w.heap.size (.int .i64 0) (.int .i64 0):=by
 have q:=θ w #[.int .i64 0,.int .i64 0] 34;exact⟨q 0,q 1,λo=>aG _ _ w.heap.size o rfl,bB _ _ _⟩
theorem rE (h:Below w.heap.size w W)(hr:w.heap.size<=r)(u v:Value):Below w.heap.size w ((W.setCell ⟨r,0,none⟩ u).setCell ⟨r,1,none⟩ v):=(h.setCell hr u).setCell hr v
theorem IE {p:Addr}{x:Value}(h:W.cell? p=some x)(hne:p.block≠r)(u v:Value):((W.setCell ⟨r,0,none⟩ u).setCell ⟨r,1,none⟩ v).cell? p=some x :=
 (bu (λe=>hne (by rw[<- e]))).trans ((bu (λe=>hne (by rw[<- e]))).trans h)
theorem aW {a b:Value}(h0:W.cell? ⟨r,0,none⟩=some a)(G:W.cell? ⟨r,1,none⟩=some b)(u v:Value):((W.setCell ⟨r,0,none⟩ u).setCell ⟨r,1,none⟩ v).cell? ⟨r,0,none⟩=some u/\((W.setCell ⟨r,0,none⟩ u).setCell ⟨r,1,none⟩ v).cell? ⟨r,1,none⟩=some v :=
 ⟨(bu (by simp)).trans (fK h0),fK ((bu (by simp)).trans G)⟩
theorem bD.fresh (h:bD ts N w w')(hr:w.heap.size<=r)(o:Nat)(v:Value):bD ts N w (w'.setCell ⟨r,o,none⟩ v):=
 ⟨h.os,h.tape,h.output,σ h.size (by simp[World.setCell]),λk D=>by
  rw[μ _ _ _ _ (by simp only;omega)];exact h.blk k D⟩
theorem bD.drew (h:bD ts N w w'):bD ts N w w'.drew:=⟨h.os,h.tape,h.output,h.size,h.blk⟩
section
variable {N0:Nat}{w w':World}{c z:Nat}{ly:Ly}{sz:Int}{m:Nat}{bs:List Nat}{Q:List Sl}{mn lw hi:Int}{k:Nat}{nb fm F:Nat->Nat}{V:Nat->Nd}{fr:Nat->List Nat}
theorem PS.n_ (h:PS N0 w c z ly sz m bs Q mn lw hi k nb fm F V fr){ts:List (Option TypeId)}{N:Nat}(K:bD ts N w w')(h0:none∉ts)(G:∀t∈([241,242,38,3,327]:List TypeId),some t∉ts)(O:∀t∈([248,288,300]:List TypeId),some t∉ts):PS N0 w' c z ly sz m bs Q mn lw hi k nb fm F V fr :=
 ⟨AB h.d K h0 G,h.c.same (K.ep O) (K.ly h0 h.c.ym),h.ow,h.mf,h.k4,h.ml⟩
theorem PS.rx (h:PS N0 w c z ly sz m bs Q mn lw hi k nb fm F V fr){r:Nat}{a b:Value}(hr:Rx w r a b)(u v:Value):PS N0 ((w.setCell ⟨r,0,none⟩ u).setCell ⟨r,1,none⟩ v) c z ly sz m bs Q mn lw hi k nb fm F V fr :=
 h.n_ ((bD.set hr.tg (Γ _) 0 u).trans (bD.set (hr.tg.set _ _) (Γ _) 1 v)) (by decide) (by decide) (by decide)
theorem PS.bit (h:PS N0 w c z ly sz m bs Q mn lw hi k nb fm F V fr){j b:Nat}{s:Sl}(eb:bs[j]?=some b)(es:Q[j]?=some s){x:Nat}(hx:x<2^m):PS N0 (w.setCell ⟨b,3,none⟩ (.int .u64 x)) c z ly sz m bs (Q.set j {s with bm:=x}) mn lw hi k nb fm F V fr:=by
 have hS:=h.c.sl j b s eb es;have K:bD [some 300] 0 w (w.setCell ⟨b,3,none⟩ (.int .u64 x)):=bD.set hS.tg (Γ _) 3 _;have D:Kept b b w (w.setCell ⟨b,3,none⟩ (.int .u64 x)):=⟨rfl,rfl,rfl,by simp[World.setCell],λi _ G _=>μ _ _ _ _ G⟩;exact⟨AB h.d K (by decide) (by decide),h.c.turn eb es x hx D ⟨(bu (by simp)).trans hS.c0,(bu (by simp)).trans hS.c1,(bu (by simp)).trans hS.c2,fK hS.c3,hS.tg.set _ _,λo=>by rw[Ψ];exact hS.fz o⟩,h.ow.set es x,h.mf,h.k4,h.ml⟩
end
theorem IG (x i:Nat)(hx:x<18446744073709551616)(hi:i<64):bits .or .u64 (x:Int) (IntKind.u64.wrap (2^i))=((x||| 2^i:Nat):Int):=by
 have hp:2^i<18446744073709551616:=(Nat.pow_lt_pow_right (by omega) hi:2^i<2^64);have e:(2:Int)^i=((2^i:Nat):Int):=by push_cast;rfl
 have e2:IntKind.u64.wrap ((2:Int)^i)=((2^i:Nat):Int):=by
  rw[e];generalize 2^i=P at*;rw[IntKind.wrap_u64];omega
 rw[e2,bits_or_u64_nat _ _ hx hp]
abbrev K4:List (Option TypeId):=[none,some 248,some 288,some 300]
theorem CM (x:Nat)(hx:x<18446744073709551616):bits .xor .u64 IntKind.u64.max (x:Int)=((18446744073709551615-x:Nat):Int):=by
 have G:(BitVec.ofInt 64 (x:Int)).toNat=x:=by
  rw[BitVec.ofInt_natCast,BitVec.toNat_ofNat];exact Nat.mod_eq_of_lt (by omega)
 have O:BitVec.ofInt 64 IntKind.u64.max=BitVec.allOnes 64:=by decide +kernel
 have h3:(BitVec.allOnes 64 ^^^ BitVec.ofInt 64 (x:Int)).toNat=2^64-1-x:=by rw[BitVec.allOnes_xor,BitVec.toNat_not,G]
 have h4:∀M:Int,bits .xor .u64 M (x:Int)=IntKind.u64.wrap ((BitVec.ofInt 64 M ^^^ BitVec.ofInt 64 (x:Int)).toNat:Int):=λM=>rfl;rw[h4,O,h3,IntKind.wrap_u64];omega
inductive Pg (N0:Nat)(c z:Nat)(ly:Ly)(sz:Int)(m:Nat)(bs:List Nat)(Q:List Sl)(mn lw hi:Int)(k:Nat)(nb fm F:Nat->Nat)(V:Nat->Nd)(fr:Nat->List Nat)(x:Int)(u:Bool)(e:Nat->Addr)(w:World):Ending->World->Prop
 |no (a:Nat) (w':World) (ha:a<10) (hp:PS N0 w' c z ly sz m bs Q mn lw hi k nb fm F V fr) (K:bD K4 N0 w w')
  (hr:(a=1/\¬(0<=x/\x<k))\/∃x':Nat,x=x'/\x'<k/\(dK m x' Q Q.length).1=none/\(fr x').find? (λi=>fA 0 mn u (V i)==2)=none/\a=if(fr x').any (λi=>fA 0 mn u (V i)==1)then 6 else 4):
  Pg N0 c z ly sz m bs Q mn lw hi k nb fm F V fr x u e w (.returned (.tuple #[bz 0 0,bc (e a)])) w'
 |old (x' j:Nat) (s:Sl) (w':World) (hx:x=x') (mN:x'<k) (J:(dK m x' Q Q.length).1=some j) (hs:Q[j]?=some s)
  (hp:PS N0 w' c z ly sz m bs (Q.set j {s with bm:=s.bm||| 2^ff s.bm}) mn lw hi k nb fm F V fr) (K:bD K4 N0 w w'):
  Pg N0 c z ly sz m bs Q mn lw hi k nb fm F V fr x u e w (.returned (.tuple #[bz s.V (s.at_*64+ff s.bm*sz),.nilIface])) w'
 |new (x' i b q:Nat) (a:Int) (w':World) (hx:x=x') (mN:x'<k) (J:(dK m x' Q Q.length).1=none) (hf:(fr x').find? (λi=>fA 0 mn u (V i)==2)=some i) (hik:i<k) (ha:a=mO 0 (V i)) (hq:Pos Q i a q)
  (hp:PS N0 w' c z ly sz m (Sb.ins bs q b) (Sb.ins Q q ⟨i,a,1⟩) mn lw hi k nb fm F (up V i (kC 0 (V i))) fr) (K:bD K4 N0 w w'):
  Pg N0 c z ly sz m bs Q mn lw hi k nb fm F V fr x u e w (.returned (.tuple #[bz i (a*64),.nilIface])) w'
theorem mB {α : Type}{l:List α}{q:Nat}{x y : α}(hq:q<=l.length):(Sb.ins l q x).set q y=Sb.ins l q y:=by
 apply dN;intro i;rw[List.getElem?_set,cF _ hq,cF _ hq,ek];by_cases h:q=i
 ·subst h;simp;omega
 ·rw[ai h];by_cases G:i<q
  ·rw[af G,af G]
  ·rw[ai G,ai G,ai (cV h),ai (cV h)]
theorem CN:ff 0=0:=by
 obtain⟨_,_,h⟩:=ky (x:=0) (m:=1) (by decide) (by decide) (by decide);rcases Nat.eq_zero_or_pos (ff 0)with h0|h0
 ·exact h0
 ·have:=h 0 h0;simp at this
end Sb
variable {w:World}{e:Nat->Addr}
structure gj (w:World)(e:Nat->Addr):Prop where
 v1:w.cell? ⟨1,0,none⟩=some (.iface 424 (.pointer (some (e 1))))
 v2:w.cell? ⟨0,0,none⟩=some (.iface 424 (.pointer (some (e 2))))
 v3:w.cell? ⟨3,0,none⟩=some (.iface 424 (.pointer (some (e 3))))
 v4:w.cell? ⟨6,0,none⟩=some (.iface 424 (.pointer (some (e 4))))
 v6:w.cell? ⟨8,0,none⟩=some (.iface 424 (.pointer (some (e 6))))
 v8:w.cell? ⟨2,0,none⟩=some (.iface 424 (.pointer (some (e 8))))
 tab:∀j,j<64->w.cell? ⟨11,j,none⟩=some (.int .u8 ((Lib.deBruijn64tab.getD j 0:Nat):Int))
theorem dM.Ro (h:dM w e):gj w e:=⟨h.v1,h.v2,h.v3,h.v4,h.v6,h.v8,h.tab⟩
theorem gj.three (h:gj w e):kO w e:=⟨h.v1,h.v2,h.v3⟩
theorem gj.below {w':World}(h:gj w e)(J:Below w.heap.size w w'):gj w' e :=
 ⟨keep h.v1 J,keep h.v2 J,keep h.v3 J,keep h.v4 J,keep h.v6 J,keep h.v8 J,λj E=>keep (h.tab j E) J⟩
namespace Mg
open Fr Bd Zn Dz Sb
theorem EO {ts:List (Option TypeId)}{N:Nat}{w w0 w':World}{e:Nat->Addr}(he:gj w0 e)(J:Below w0.heap.size w0 w)(K:bD ts N w w')(hN:w0.heap.size<=N):gj w' e:=he.below (J.trans ((K.mono (λ_ h=>h) hN).toBelow J.size))
theorem CO (x:Nat)(hx:x<18446744073709551616)(w:World)(e:Nat->Addr)(he:gj w e):
  Calls prog 173 #[.int .u64 x] w λe w'=>e=.returned (.int .i64 (Lib.ctz 64 x))/\w'=w:=by
 by_cases hx0:x=0
 ·subst hx0;exact Iy w
 ·obtain⟨jN,D⟩:=Lib.lowest_bit 64 x hx0 hx;obtain⟨hi,aaA⟩:=Lib.deBruijn64_at _ D;have hcell:=he.tab _ hi;rw[aaA]at hcell;exact Ix x _ _ w (by simp;omega) (tz64_key x _ hx hx0 jN) hi D hcell
theorem vB (z:Nat)(x o:Int)(u:Bool)(w:World)(e:Nat->Addr)(he:gj w e)(ho:o<0\/6<o):
  Calls prog 171 #[ptr z,.int .i64 x,.int .i64 o,.bool u] w λev w'=>ev=.returned (.tuple #[sM 0 0 0,bc (e 1)])/\Below w.heap.size w w':=by
 obtain⟨T1,F1⟩:=AG w z o u;have HS:=I (Ih o _ e (he.below F1).three ho);have HE:=I he;have hw0:=aa w _ he.v1;simp only at hw0;clear he ho;unfold ptr at*;unfold sM;go_enter func171,ntmps171;go_upto_region 1 with(fail);generalize hW:Pc w z o u=W at*;have y1:=T1.co;go_wp2_with fail;refine(Z HS).mono ?_;rintro ev w2⟨rfl,b2⟩;have F2:=χ (bW F1 b2) (.cells #[.int .i64 0] 3);have P2:=(T1.b b2).Y.b (χ (γ _ _) (.cells #[.int .i64 0] 3));have E2:=((Z HE).below F2).v1;clear y1 HS hW T1 HE;go_upto_region 3 with(fail);generalize w2.alloc (.cells #[.int .i64 0] 3)=W2 at*;have p0:=P2.c0;have p1:=P2.c1;have p2:=P2.c2;have f0:=P2.f 0;have f1:=P2.f 1;have f2:=P2.f 2;obtain⟨t0,t1,t2⟩:=lS P2 0 0 0;have hq:=od (b:=w.heap.size+3) E2 (by simp only;omega) (.int .i64 0) (.int .i64 0) (.int .i64 0);go_region
 all_goals
  go_wp2;refine Θ (v:=.tuple #[.agg #[.int .i64 0,.int .i64 0,.int .i64 0],bc (e 1)]) (by simp[results,results171,go_sem,t0,t1,t2,bc];try rfl) rfl ⟨rfl,by first|exact(gi F2 (by omega) _ _ _).drew|exact gi F2.drew (by omega) _ _ _⟩
theorem xL (z:Nat)(mn lw hi:Int)(k:Nat)(nb fm F:Nat->Nat)(V:Nat->Nd)(fr:Nat->List Nat)(x o:Int)(u:Bool)(w:World)(e:Nat->Addr)(he:gj w e)(h:DZ w z mn lw hi k nb fm F V fr)(h0:0<=o)(h6:o<=6)(hx:¬(0<=x/\x<k)):
  Calls prog 171 #[ptr z,.int .i64 x,.int .i64 o,.bool u] w λev w'=>ev=.returned (.tuple #[sM 0 0 0,bc (e 1)])/\Below w.heap.size w w':=by
 obtain⟨T1,F1⟩:=AG w z o u;have HS:=I (λw1=>CD o w1 h0 h6);have HH:=I (λw1 (J:Below w.heap.size w w1)=>show Calls prog 221 #[ptr z,.int .i64 x] w1 λev w'=>ev=.returned (.bool false)/\w'=w1 by
  have:=vt z mn lw hi k nb fm F V fr x w1 (h.b J);rwa [show decide (0<=x/\x<k)=false by simpa using hx]at this)
 have HE:=I he;have hw0:=aa w _ he.v1;simp only at hw0;clear he h hx h0 h6;unfold ptr at*;unfold sM;generalize pw o=pz at*;go_enter func171,ntmps171;go_upto_region 1 with(fail);generalize hW:Pc w z o u=W at*;have y1:=T1.co;go_wp2_with fail;refine(Z HS _).mono ?_;rintro ev w2⟨rfl,rfl⟩;have F2:=χ F1 (.cells #[.int .i64 pz] 3);have T2:=T1.b (χ (γ _ _) (.cells #[.int .i64 pz] 3));have E2:=((Z HE).below F2).v1;have HX:=I ((Z HH) _ F2);clear y1 HS hW T1 HE HH F1;go_upto_region 2 with(fail);generalize w2.alloc (.cells #[.int .i64 pz] 3)=W2 at*;have y0:=T2.cz;unfold ptr at y0;go_wp2_with fail;refine(Z HX).mono ?_;rintro ev w3⟨rfl,rfl⟩;have P2:=T2.Y;go_upto_region 3 with(fail);have p0:=P2.c0;have p1:=P2.c1;have p2:=P2.c2;have f0:=P2.f 0;have f1:=P2.f 1;have f2:=P2.f 2;obtain⟨t0,t1,t2⟩:=lS P2 0 0 0;have hq:=od (b:=w.heap.size+3) E2 (by simp only;omega) (.int .i64 0) (.int .i64 0) (.int .i64 0);go_region
 all_goals
  go_wp2;refine Θ (v:=.tuple #[.agg #[.int .i64 0,.int .i64 0,.int .i64 0],bc (e 1)]) (by simp[results,results171,go_sem,t0,t1,t2,bc];try rfl) rfl ⟨rfl,by first|exact(gi F2 (by omega) _ _ _).drew|exact gi F2.drew (by omega) _ _ _⟩
theorem EP (z:Nat)(mn lw hi:Int)(k:Nat)(nb fm F:Nat->Nat)(V:Nat->Nd)(fr:Nat->List Nat)(x:Nat)(o:Int)(u:Bool)(w:World)(e:Nat->Addr)(he:gj w e)(h:DZ w z mn lw hi k nb fm F V fr)(hx:x<k)(h0:0<=o)(h6:o<=6)(hk4:k<=20):
  Calls prog 171 #[ptr z,.int .i64 x,.int .i64 o,.bool u] w λev w'=>Rc z mn lw hi k nb fm F V fr x o u e w ev w':=by
 obtain⟨T1,F1⟩:=AG w z o u;have MK:(Pc w z o u).heap.size=w.heap.size+4:=by unfold Pc;simp
 have HS:=I (λw1=>CD o w1 h0 h6);have HH:=I (λw1 (J:Below w.heap.size w w1)=>show Calls prog 221 #[ptr z,.int .i64 x] w1 λev w'=>ev=.returned (.bool true)/\w'=w1 by
  have:=vt z mn lw hi k nb fm F V fr x w1 (h.b J);rwa [show decide ((0:Int)<=(x:Int)/\(x:Int)<k)=true by simp;omega]at this)
 have hlen:=(h.fl x hx).1;have ql:=(h.fl x hx).2;have YR:∀j,j<k->(fr x).getD j 0<k:=λj E=>ql _ (by rw[au,ξ (by omega),bY];exact aO _);have eH:=h.ok;have VL:=I (λr (hr:Hn (λj=>okB o mn u (V ((fr x).getD j 0))) k r)=>IB (q:=λi=>fA o mn u (V i)==2) hlen (λi hi'=>(Aw h0 (eH i (ql i hi'))).1) hr);have Rp:=I (λ(hn:(fr x).find? (λi=>fA o mn u (V i)==2)=none)=>show((List.range k).any λj=>o9 o (V ((fr x).getD j 0)))=(fr x).any (λi=>fA o mn u (V i)==1) by
  rw[IA (fr x) k hlen (λi=>o9 o (V i))];rw[dn]at hn;rw[Bool.eq_iff_iff];simp only[gG];constructor
  ·rintro⟨i,hi',h'⟩;exact⟨i,hi',by rw[<- (Aw h0 (eH i (ql i hi'))).2 (by simpa using hn i hi')];exact h'⟩
  ·rintro⟨i,hi',h'⟩;exact⟨i,hi',by rw[(Aw h0 (eH i (ql i hi'))).2 (by simpa using hn i hi')];exact h'⟩)
 have HE:=I he;have HZ:=I h;have hw0:=aa w _ he.v4;have hw4:=aa w _ he.v6;simp only at hw0 hw4;clear he h eH;have Rq:=I (λw1 (J:Below w.heap.size w w1) (i:Nat) (hi':i<k) (y:Bl) (hf:fit o (V i).aca=some y)=>EK z mn lw hi k nb fm F V fr i o y w1 ((Z HZ).b J) hi' h0 h6 hf);have HAN:=I (λw1 (J:Below w.heap.size w w1) (i:Nat) (hi':i<k)=>Mv z mn lw hi k nb fm F V fr i o u w.heap.size (w.heap.size+5) (w.heap.size+1) (w.heap.size+4) (w.heap.size+6) (w.heap.size+2) (w.heap.size+7) w1 ((Z HZ).b J) hi' h0 h6);have ML:=I (λw1 (J:Below w.heap.size w w1) (i:Nat) (hi':i<k)=>CF z mn lw hi k nb fm F V fr i o w.heap.size (w.heap.size+5) (w.heap.size+1) w1 ((Z HZ).b J) hi');have R1:Hid (∀(lo:Bool) w',(fr x).find? (λi=>fA o mn u (V i)==2)=none->(fr x).any (λi=>fA o mn u (V i)==1)=lo->Below w.heap.size w w'->Rc z mn lw hi k nb fm F V fr x o u e w (.returned (.tuple #[.agg #[.int .i64 0,.int .i64 0,.int .i64 0],bc (e (if lo then 6 else 4))])) w'):=λlo w' G O h3=>ε ⟨G,by rw[O];rfl,h3⟩;have R2:Hid (∀(i:Nat) (a:Int) w',(fr x).find? (λi=>fA o mn u (V i)==2)=some i->i<k->mO o (V i)=a->DZ w' z mn lw hi k nb fm F (up V i (kC o (V i))) fr->Kept (fm i) (F i) w w'->Rc z mn lw hi k nb fm F V fr x o u e w (.returned (.tuple #[.agg #[.int .i64 (i:Int),.int .i64 a,.int .i64 o],.nilIface])) w'):=λi a w' G O h3 h4 h5=>δ ⟨i,G,O,by rw[h3];rfl,h4,h5⟩;generalize Rc z mn lw hi k nb fm F V fr x o u e w=TR at*;unfold ptr at*;generalize hpz:pw o=pz at*;go_enter func171,ntmps171;go_upto_region 1 with(fail);generalize hW:Pc w z o u=W at*;have y1:=T1.co;go_wp2_with fail;refine(Z HS _).mono ?_;rintro ev w2⟨rfl,rfl⟩;have F2:=χ F1 (.cells #[.int .i64 pz] 3);have T2:=T1.b (χ (γ _ _) (.cells #[.int .i64 pz] 3));have q4:=θ w2 #[.int .i64 pz] 3 0;have hs2:(w2.alloc (.cells #[.int .i64 pz] 3)).heap.size=w.heap.size+5:=by simp;omega
 have HX:=I ((Z HH) _ F2);rw[MK]at q4;clear y1 HS hW T1 HH F1;go_upto_region 2 with(fail);simp only[Nat.add_assoc,Nat.reduceAdd];generalize w2.alloc (.cells #[.int .i64 pz] 3)=W2 at*;clear MK;have y0:=T2.cz;unfold ptr at y0;go_wp2_with fail;refine(Z HX).mono ?_;rintro ev w3⟨rfl,rfl⟩;go_upto_region 7 with(fail);simp only[Nat.add_assoc,Nat.reduceAdd];have F3:=χ (χ (χ F2 (.cells #[.func (.func 222) #[] #[.pointer (some ⟨w.heap.size+1,0,none⟩)]] 357)) (.cells #[.func (.func 223) #[] #[.pointer (some ⟨w.heap.size,0,none⟩),.pointer (some ⟨w.heap.size+5,0,none⟩)]] 146)) (.cells #[.func (.func 226) #[] #[.pointer (some ⟨w.heap.size,0,none⟩),.pointer (some ⟨w.heap.size+4,0,none⟩)]] 146);have G3:=χ (χ (χ (γ _ w3) (.cells #[.func (.func 222) #[] #[.pointer (some ⟨w.heap.size+1,0,none⟩)]] 357)) (.cells #[.func (.func 223) #[] #[.pointer (some ⟨w.heap.size,0,none⟩),.pointer (some ⟨w.heap.size+5,0,none⟩)]] 146)) (.cells #[.func (.func 226) #[] #[.pointer (some ⟨w.heap.size,0,none⟩),.pointer (some ⟨w.heap.size+4,0,none⟩)]] 146);have q5:=θ w3 #[.func (.func 222) #[] #[.pointer (some ⟨w.heap.size+1,0,none⟩)]] 357 0;have n5:(w3.alloc (.cells #[.func (.func 222) #[] #[.pointer (some ⟨w.heap.size+1,0,none⟩)]] 357)).heap.size=w.heap.size+6:=by simp;omega
 have q6:=θ (w3.alloc (.cells #[.func (.func 222) #[] #[.pointer (some ⟨w.heap.size+1,0,none⟩)]] 357)) #[.func (.func 223) #[] #[.pointer (some ⟨w.heap.size,0,none⟩),.pointer (some ⟨w.heap.size+5,0,none⟩)]] 146 0;have n6:((w3.alloc (.cells #[.func (.func 222) #[] #[.pointer (some ⟨w.heap.size+1,0,none⟩)]] 357)).alloc (.cells #[.func (.func 223) #[] #[.pointer (some ⟨w.heap.size,0,none⟩),.pointer (some ⟨w.heap.size+5,0,none⟩)]] 146)).heap.size=w.heap.size+7:=by simp;omega
 have q7:=θ ((w3.alloc (.cells #[.func (.func 222) #[] #[.pointer (some ⟨w.heap.size+1,0,none⟩)]] 357)).alloc (.cells #[.func (.func 223) #[] #[.pointer (some ⟨w.heap.size,0,none⟩),.pointer (some ⟨w.heap.size+5,0,none⟩)]] 146)) #[.func (.func 226) #[] #[.pointer (some ⟨w.heap.size,0,none⟩),.pointer (some ⟨w.heap.size+4,0,none⟩)]] 146 0;rw[hs2]at q5;rw[n5]at q6;rw[n6]at q7;have c5:=((χ (χ (γ _ _) (.cells #[.func (.func 223) #[] #[.pointer (some ⟨w.heap.size,0,none⟩),.pointer (some ⟨w.heap.size+5,0,none⟩)]] 146)) (.cells #[.func (.func 226) #[] #[.pointer (some ⟨w.heap.size,0,none⟩),.pointer (some ⟨w.heap.size+4,0,none⟩)]] 146)).cell (p:=⟨w.heap.size+5,0,none⟩) (by rw[n5];simp)).trans q5;have c6:=((χ (γ _ _) (.cells #[.func (.func 226) #[] #[.pointer (some ⟨w.heap.size,0,none⟩),.pointer (some ⟨w.heap.size+4,0,none⟩)]] 146)).cell (p:=⟨w.heap.size+6,0,none⟩) (by rw[n6];simp)).trans q6;have c4:=(G3.cell (p:=⟨w.heap.size+4,0,none⟩) (by rw[hs2];simp)).trans q4;have T3:=T2.b G3;clear q5 q6 n5 n6 G3 T2 F2 q4 HX y0;generalize((w3.alloc (.cells #[.func (.func 222) #[] #[.pointer (some ⟨w.heap.size+1,0,none⟩)]] 357)).alloc (.cells #[.func (.func 223) #[] #[.pointer (some ⟨w.heap.size,0,none⟩),.pointer (some ⟨w.heap.size+5,0,none⟩)]] 146)).alloc (.cells #[.func (.func 226) #[] #[.pointer (some ⟨w.heap.size,0,none⟩),.pointer (some ⟨w.heap.size+4,0,none⟩)]] 146)=W3 at*;clear hs2;simp only[Δ,υ]at c4 c5 c6 q7;obtain⟨g,c,h',d,e1,e2,Ph,e3⟩:=((Z HZ).b F3).from hx;have hzl:=((Z HZ).b F3).lt;have y0:=T3.cz;have y1:=T3.co;have y2:=T3.cu;unfold ptr at y0;have abH:=T3.lt;have sN:(x:Int)<k:=by omega
 have hx0:(0:Int)<=x:=by omega
 have l4:=aa W3 _ c4;have l5:=aa W3 _ c5;have l6:=aa W3 _ c6;have l7:=aa W3 _ q7;simp only at l4 l5 l6 l7;have VM:=I (xq (some ⟨h',0,none⟩) k d (λj=>(((fr x).getD j 0:Nat):Int)) 228 #[.pointer (some ⟨w.heap.size+6,0,none⟩),.pointer (some ⟨w.heap.size+2,0,none⟩),.pointer (some ⟨w.heap.size+7,0,none⟩)] (λj=>okB o mn u (V ((fr x).getD j 0))) aav W3 (λj E=>⟨h',0,rfl,Ph,by rw[bj];exact e3 j E⟩) (by omega)
  (λi hi' W' hW'=>((Z HAN) W' (bW F3 hW') ((fr x).getD i 0) (YR i hi') ((hW'.cell (p:=⟨w.heap.size,0,none⟩) (by simp only;omega)).trans T3.cz) ((hW'.cell (p:=⟨w.heap.size+4,0,none⟩) l4).trans c4) ((hW'.cell (p:=⟨w.heap.size+5,0,none⟩) l5).trans c5) ((hW'.cell (p:=⟨w.heap.size+1,0,none⟩) (by simp only;omega)).trans T3.co) ((hW'.cell (p:=⟨w.heap.size+6,0,none⟩) l6).trans c6) ((hW'.cell (p:=⟨w.heap.size+2,0,none⟩) (by simp only;omega)).trans T3.cu) ((hW'.cell (p:=⟨w.heap.size+7,0,none⟩) l7).trans q7)).mono λev w' hh=>⟨hh.1,bW hW' hh.2⟩))
 clear HAN;have E3:=I e3;clear e3;go_wp2_with fail;refine(Z VM).mono ?_;rintro ev w4⟨r,rfl,hr,b4⟩;have hr2:=(Z VL) r hr;have F4:=bW F3 b4;have T4:=T3.b b4;clear hr VM VL;rcases hr2 with⟨rfl,hn⟩|⟨j,E,rfl,ER,hq⟩
 ·have hAN:=(Z Rp) hn;have c64:=(b4.cell (p:=⟨w.heap.size+6,0,none⟩) l6).trans c6;have HH:=I (rj (some ⟨h',0,none⟩) k d (λj=>(((fr x).getD j 0:Nat):Int)) 223 #[.pointer (some ⟨w.heap.size,0,none⟩),.pointer (some ⟨w.heap.size+5,0,none⟩)] (λj=>o9 o (V ((fr x).getD j 0))) aau w4 (λj E=>⟨h',0,rfl,ι Ph b4.size,by rw[bj];exact(b4.cell (p:=⟨h',j,none⟩) Ph).trans ((Z E3) j E)⟩) (by omega)
   (λi hi' W' hW'=>((Z ML) W' (bW F4 hW') ((fr x).getD i 0) (YR i hi') (((bW b4 hW').cell (p:=⟨w.heap.size,0,none⟩) (by simp only;omega)).trans T3.cz) (((bW b4 hW').cell (p:=⟨w.heap.size+5,0,none⟩) l5).trans c5) (((bW b4 hW').cell (p:=⟨w.heap.size+1,0,none⟩) (by simp only;omega)).trans T3.co)).mono λev w' hh=>⟨hh.1,bW hW' hh.2⟩))
  rw[hAN]at HH;have R3:=I (λw' h3=>(Z R1) ((fr x).any (λi=>fA o mn u (V i)==1)) w' hn rfl h3);generalize(fr x).any (λi=>fA o mn u (V i)==1)=lo at*;clear R1 R2 hAN Rp ML Rq hn e1 e2 y0 y1 y2 c4 c5 c6 q7;go_wp2_with fail;refine(Z HH).mono ?_;rintro ev w5⟨rfl,b5⟩;have F5:=bW F4 b5;have P5:=(T4.b b5).Y;have E5:=(Z HE).below F5;have E54:=E5.v4;have E56:=E5.v6;clear E5 HH;cases lo with
  |true =>
   go_upto_region 12 with(fail);have p0:=P5.c0;have p1:=P5.c1;have p2:=P5.c2;have f0:=P5.f 0;have f1:=P5.f 1;have f2:=P5.f 2;obtain⟨t0,t1,t2⟩:=lS P5 0 0 0;have hq:=od (b:=w.heap.size+3) E56 (by simp only;omega) (.int .i64 0) (.int .i64 0) (.int .i64 0);go_region
   all_goals
    go_wp2;refine Θ (v:=.tuple #[.agg #[.int .i64 0,.int .i64 0,.int .i64 0],bc (e 6)]) (by simp[results,results171,go_sem,t0,t1,t2,bc];try rfl) rfl ((Z R3) _ (by first|exact(gi F5 (by omega) _ _ _).drew|exact gi F5.drew (by omega) _ _ _))
  |false =>
   go_upto_region 13 with(fail);have p0:=P5.c0;have p1:=P5.c1;have p2:=P5.c2;have f0:=P5.f 0;have f1:=P5.f 1;have f2:=P5.f 2;obtain⟨t0,t1,t2⟩:=lS P5 0 0 0;have hq:=od (b:=w.heap.size+3) E54 (by simp only;omega) (.int .i64 0) (.int .i64 0) (.int .i64 0);go_region
   all_goals
    go_wp2;refine Θ (v:=.tuple #[.agg #[.int .i64 0,.int .i64 0,.int .i64 0],bc (e 4)]) (by simp[results,results171,go_sem,t0,t1,t2,bc];try rfl) rfl ((Z R3) _ (by first|exact(gi F5 (by omega) _ _ _).drew|exact gi F5.drew (by omega) _ _ _))
 ·have VN:=YR j E;have ej:=(b4.cell (p:=⟨h',j,none⟩) Ph).trans ((Z E3) j E);clear YR E3 Rp ML e1 e2 c4 c5 c6 q7 y0 y1 y2;generalize(fr x).getD j 0=n at*;have Gp:fA o mn u (V n)=2:=by simpa using hq
  obtain⟨y,hf⟩:∃y,fit o (V n).aca=some y:=by
   cases hf:fit o (V n).aca with
   |none=>simp[fA,hf]at Gp
   |some y=>exact⟨y,rfl⟩
  have htA:mO o (V n)=y.1:=by simp[mO,hf]
  have F4d:Below w.heap.size w w4.drew:=F4.drew;have D4:=(Z HZ).b F4d;have hF:=(D4.bd n VN).f;have hT:=(D4.bd n VN).t;have P4:PB w4.drew (w.heap.size+3):=T4.Y.b (dw w4);have HT:=I ((Z Rq) w4.drew F4d n VN y hf);have y0:=T4.cz;have y1:=T4.co;unfold ptr at y0;have hjk:(j:Int)<k:=by omega
  have Cn:(0:Int)<=j:=by omega
  have tk:True:=trivial;clear D4 Rq hq Gp hf T3 T4 HZ;unfold sM at*;have R3:=I (λw' h4 h5=>(Z R2) n y.1 w' ER VN htA h4 h5);clear R1 R2 ER htA;go_upto_region 10 with(fail);first
  |(go_region_law (first
   |(have _t:=tk;go_simp;go_at_call 229;refine(Z HT).mono ?_;rintro ev w5⟨rfl,D5,k5⟩;have P5:=CG P4 hF hT k5;have p0:=P5.c0;have p1:=P5.c1;have p2:=P5.c2;have f0:=P5.f 0;have f1:=P5.f 1;have f2:=P5.f 2;clear tk)))
  |skip
  all_goals
   have K5:=(dY (A:=fm n) (B:=F n) F4d).trans k5;have ks:=((bA (g:=w.heap.size+3) w5 0 (.int .i64 (n:Int))).trans (bA _ 1 (.int .i64 y.1))).trans (bA _ 2 (.int .i64 o));have DF:=I (D5.keep ks P5.tg (by decide) (by decide) (by decide) (by decide) (by decide));have KF:=tV K5 (c:=w.heap.size+3) (by omega) (.int .i64 (n:Int)) (.int .i64 y.1) (.int .i64 o);obtain⟨t0,t1,t2⟩:=lS P5 n y.1 o;clear D5 K5 ks;go_wp2;refine Θ (v:=.tuple #[.agg #[.int .i64 (n:Int),.int .i64 y.1,.int .i64 o],.nilIface]) (by simp[results,results171,go_sem,t0,t1,t2];try rfl) rfl ((Z R3) _ (Z DF) KF)
theorem AJ (z:Nat)(mn lw hi:Int)(k:Nat)(nb fm F:Nat->Nat)(V:Nat->Nd)(fr:Nat->List Nat)(x o:Int)(u:Bool)(w:World)(e:Nat->Addr)(he:gj w e)(h:DZ w z mn lw hi k nb fm F V fr)(hk4:k<=20):
  Calls prog 171 #[.pointer (some ⟨z,0,none⟩),.int .i64 x,.int .i64 o,.bool u] w λev w'=>VK z mn lw hi k nb fm F V fr x o u e w ev w':=by
 by_cases ho:o<0\/6<o
 ·exact(vB z x o u w e he ho).mono λev w' hh=>ε ⟨1,by omega,hh.1,hh.2,ε ⟨rfl,δ ho⟩⟩
 ·by_cases hx:0<=x/\x<k
  ·obtain⟨x',rfl⟩:=bw hx.1;refine(EP z mn lw hi k nb fm F V fr x' o u w e he h (by omega) (by omega) (by omega) hk4).mono λev w' hh=>?_;rcases hh with⟨G,O,h3⟩|⟨i,G,O,h3,h4,h5⟩
   ·refine ε ⟨_,?_,O,h3,δ ⟨x',rfl,by omega,by omega,by omega,G,rfl⟩⟩;split<;>omega
   ·exact δ ⟨x',i,_,rfl,by omega,by omega,by omega,G,O,rfl,h3,h4,h5⟩
  ·exact(xL z mn lw hi k nb fm F V fr x o u w e he h (by omega) (by omega) hx).mono λev w' hh=>ε ⟨1,by omega,hh.1,hh.2,ε ⟨rfl,ε hx⟩⟩
theorem ES (N0:Nat)(c z:Nat)(ly:Ly)(sz:Int)(m:Nat)(bs:List Nat)(Q:List Sl)(mn lw hi:Int)(k:Nat)(nb fm F:Nat->Nat)(V:Nat->Nd)(fr:Nat->List Nat)(x:Int)(u:Bool)(e:Nat->Addr)(w0 w:World)(he0:gj w0 e)(hb0:Below w0.heap.size w0 w)(hN0:w0.heap.size<=N0)(h:PS N0 w c z ly sz m bs Q mn lw hi k nb fm F V fr):
  Calls prog 101 #[ptr c,.int .i64 x,.bool u] w λev w'=>Pg N0 c z ly sz m bs Q mn lw hi k nb fm F V fr x u e w ev w':=by
 have he:=he0.below hb0;have HEC:Hid (∀w',bD K4 N0 w w'->gj w' e):=λw' K=>EO he0 hb0 K hN0;have F1:=χ (γ w.heap.size w) (cB 0 0);have R1:=cQ w;have P1:=h.b F1;have YS:=I (vz c z mn lw hi k nb fm F V fr x _ e (he.below F1).three P1.d P1.c.c0);have HE:=I he;have Gs:=I P1;have cZ:=I F1;have fk:=I R1;have lcN:=P1.c.ge;have RN:Hid (∀a w',a<10->PS N0 w' c z ly sz m bs Q mn lw hi k nb fm F V fr->bD K4 N0 w w'->((a=1/\¬(0<=x/\x<k))\/∃x':Nat,x=x'/\x'<k/\(dK m x' Q Q.length).1=none/\(fr x').find? (λi=>fA 0 mn u (V i)==2)=none/\a=if(fr x').any (λi=>fA 0 mn u (V i)==1)then 6 else 4)->Pg N0 c z ly sz m bs Q mn lw hi k nb fm F V fr x u e w (.returned (.tuple #[bz 0 0,bc (e a)])) w'):=λa w' G O h3 h4=>.no a w' G O h3 h4;have RO:Hid (∀x' j s w',x=(x':Nat)->x'<k->(dK m x' Q Q.length).1=some j->Q[j]?=some s->PS N0 w' c z ly sz m bs (Q.set j {s with bm:=s.bm||| 2^ff s.bm}) mn lw hi k nb fm F V fr->bD K4 N0 w w'->Pg N0 c z ly sz m bs Q mn lw hi k nb fm F V fr x u e w (.returned (.tuple #[bz s.V (s.at_*64+ff s.bm*sz),.nilIface])) w'):=λx' j s w' G O h3 h4 h5 h6=>.old x' j s w' G O h3 h4 h5 h6;have RW:Hid (∀(x' i b q:Nat) (a:Int) w',x=(x':Nat)->x'<k->(dK m x' Q Q.length).1=none->(fr x').find? (λi=>fA 0 mn u (V i)==2)=some i->i<k->a=mO 0 (V i)->Pos Q i a q->PS N0 w' c z ly sz m (Sb.ins bs q b) (Sb.ins Q q ⟨i,a,1⟩) mn lw hi k nb fm F (up V i (kC 0 (V i))) fr->bD K4 N0 w w'->Pg N0 c z ly sz m bs Q mn lw hi k nb fm F V fr x u e w (.returned (.tuple #[bz i (a*64),.nilIface])) w'):=λx' i b q a w' G O h3 h4 h5 h6 h7 h8 h9=>.new x' i b q a w' G O h3 h4 h5 h6 h7 h8 h9;clear he h F1 R1 P1 he0 hb0;generalize Pg N0 c z ly sz m bs Q mn lw hi k nb fm F V fr x u e w=TR at*;unfold ptr at*;go_enter func101,ntmps101;go_upto_region 1 with(fail);generalize hW:w.alloc (cB 0 0)=W at*;go_wp2_with fail;refine(Z YS).mono ?_;rintro ev w1⟨rfl,b1⟩;have F2:=bW (Z cZ) b1;have P2:=(Z Gs).b b1;have R2:=(Z fk).b b1;clear YS cZ Gs fk;by_cases hx:0<=x/\x<k
 ·rw[show decide (0<=x/\x<k)=true by simpa using hx];obtain⟨x',rfl⟩:=bw hx.1;have sN:x'<k:=by omega
  have nO:=P2.c.Pb;have Rt:=I (MD N0 c z ly sz m bs Q x' w1 P2.c (o_ P2));cases J:(dK m x' Q Q.length).1 with
  |some j =>
   obtain⟨E,hnd,jR⟩:=iP J;obtain⟨b,s,eb,es,hS,eH⟩:=P2.c.slab E;rw[getD_at es]at jR;have zu:jy bs (some j)=.pointer (some ⟨b,0,none⟩):=by simp only[jy,getD_at eb];rfl
   rw[J,zu]at Rt;have IH:Hid (∀w',PS N0 w' c z ly sz m bs (Q.set j {s with bm:=s.bm||| 2^ff s.bm}) mn lw hi k nb fm F V fr->bD K4 N0 w w'->TR (.returned (.tuple #[bz s.V (s.at_*64+ff s.bm*sz),.nilIface])) w'):=λw' G O=>(Z RO) x' j s w' rfl sN J es G O;obtain⟨Gl,hf2,hf3⟩:=ky eH.2.2.1 nO.2 jR;obtain⟨X,hX⟩:∃X,X=18446744073709551615-s.bm:=⟨_,rfl⟩;have Pj:Hid (Calls prog 173 #[.int .u64 (X:Int)] w1 λe w'=>e=.returned (.int .i64 (ff s.bm))/\w'=w1):=by
    have VO:ff s.bm=Lib.ctz 64 X:=by rw[hX];rfl
    rw[VO];exact CO X (by omega) w1 e ((Z HE).below F2)
   have VP:Hid (bits .xor .u64 (if IntKind.u64.signed=true then -1 else IntKind.u64.max) (s.bm:Int)=(X:Int)):=by
    rw[show(if IntKind.u64.signed=true then(-1:Int)else IntKind.u64.max)=IntKind.u64.max from rfl,hX];exact CM s.bm (iU eH.2.2.1 nO.2)
   clear hX;have c3:=hS.c3;have f3:=hS.fz 3;have HP:=I P2;have HR:=I R2;have HC:Hid (bD K4 N0 w w1):=bD.below F2;have HS:=I hS;have II:=I eH;have Gt:=I eb;have Gu:=I es;clear P2 R2 F2 hS eH J zu RN RO RW eb es b1 hf2 hf3 jR hnd;go_wp2_with (first|(go_at_call 170;refine(Z Rt).mono ?_;rintro ev w2⟨rfl,rfl⟩)|(go_at_call 173;rw[Z VP];refine(Z Pj).mono ?_;rintro ev w2⟨rfl,rfl⟩));have ET:ff s.bm<64:=by omega
   have jk:s.bm<2^m:=(Z II).2.2.1;have TQ:=IG s.bm (ff s.bm) (iU jk nO.2) ET;generalize ff s.bm=fi at*;have MM:s.bm||| 2^fi<2^m:=Hr jk Gl
   generalize MN:s.bm||| 2^fi=IJ at*
   go_region
   have hne:b≠w.heap.size:=(Z HS).tg.ne (Z HR).tg (by decide);have EU:=I (((Z HP).bit (Z Gt) (Z Gu) MM).b (dw _));have xI:Hid (bD K4 N0 w (w2.setCell ⟨b,3,none⟩ (.int .u64 (IJ:Int))).drew):=((Z HC).trans ((bD.set (Z HS).tg ((Z HP).c.bg b (aH (Z Gt))) 3 _).mono (by decide) (ζ _))).drew;have mU:=I ((Z HR).c (bD.set (N:=0) (Z HS).tg (Γ _) 3 (.int .u64 (IJ:Int))).drew (by decide));have VQ:Hid (zt (w2.setCell ⟨b,3,none⟩ (.int .u64 (IJ:Int))).drew b {s with bm:=IJ}):=(Z EU).c.sl j b _ (Z Gt) (by rw[aP (by exact E)]);generalize(w2.setCell ⟨b,3,none⟩ (.int .u64 (IJ:Int))).drew=W5 at*;have IK:=I (rC c b sz s.V s.at_ fi W5 (Z VQ).c0 (Z VQ).c1 (Z EU).c.c1 ⟨(Z II).1,(Z II).2.1⟩ ⟨(Z EU).c.mm.1,(Z EU).c.mm.2.1⟩ ⟨by omega,by omega⟩);clear TQ jk MN HP HC HR HS Pj Rt c3 f3;unfold ptr bz at*;go_wp2_with (go_at_call 174;refine(Z IK).mono ?_;rintro ev w6⟨rfl,b6⟩;obtain⟨r0,r1,bQ,_⟩:=(Z mU).b b6;have f0:=bQ 0;have f1:=bQ 1);obtain⟨t0,t1⟩:=aW r0 r1 (.int .i64 (s.V:Int)) (.int .i64 (s.at_*64+(fi:Int)*sz));refine Θ (v:=.tuple #[.agg #[.int .i64 s.V,.int .i64 (s.at_*64+(fi:Int)*sz)],.nilIface]) (by simp[results,results101,go_sem,t0,t1];try rfl) rfl ?_;exact(Z IH) _ (((Z EU).b b6).rx ((Z mU).b b6) _ _) ((((Z xI).trans (bD.below b6)).fresh (ζ _) 0 _).fresh (ζ _) 1 _)
  |none =>
   have zu:jy bs none=.pointer none:=rfl;rw[J,zu]at Rt;have hz0:=P2.c.c0;have KR:=I (AJ z mn lw hi k nb fm F V fr x' 0 u w1 e ((Z HE).below F2) P2.d P2.k4);have HP:=I P2;have HR:=I R2;have HC:Hid (bD K4 N0 w w1):=bD.below F2;have eA:=I F2;have HB:=I J;clear P2 R2 F2 J zu RO b1;unfold ptr at*;go_wp2_with (first|(go_at_call 170;refine(Z Rt).mono ?_;rintro ev w2⟨rfl,rfl⟩));refine(Z KR).mono ?_;rintro ev w3 hT;rcases hT with⟨a,aaB,rfl,b3,hr⟩|⟨x2,i,at',hx2,aaC,_,_,ER,hik,hat,rfl,D3,K3⟩
   ·have F4:=χ (bW (Z eA) b3) (.cells #[.int .i64 0,.int .i64 0,.int .i64 0] 293);have P4:=((Z HP).b b3).b (χ (γ _ _) (.cells #[.int .i64 0,.int .i64 0,.int .i64 0] 293));have R4:=((Z HR).b b3).b (χ (γ _ _) (.cells #[.int .i64 0,.int .i64 0,.int .i64 0] 293));have pY:(a=1/\¬(0<=(x':Int)/\(x':Int)<k))\/∃y:Nat,(x':Int)=y/\y<k/\(dK m y Q Q.length).1=none/\(fr y).find? (λi=>fA 0 mn u (V i)==2)=none/\a=if(fr y).any (λi=>fA 0 mn u (V i)==1)then 6 else 4:=by
     rcases hr with⟨G,O|O|O⟩|⟨y,G,O,_,_,h3,h4⟩
     ·exact absurd hx O
     ·omega
     ·omega
     ·obtain rfl:x'=y:=by omega
      exact δ ⟨x',rfl,sN,Z HB,h3,h4⟩
    have qF:=I (λw' (hp:PS N0 w' c z ly sz m bs Q mn lw hi k nb fm F V fr) (K:bD K4 N0 w w')=>(Z RN) a w' aaB hp K pY);have Gv:=I P4;have zx:=I R4;have jI:=I F4;clear P4 R4 F4 pY hr KR Rt HP HR eA HC b3 RN RW;go_upto_region 6 with(fail);generalize w3.alloc (.cells #[.int .i64 0,.int .i64 0,.int .i64 0] 293)=W4 at*;obtain⟨r0,r1,bQ,_⟩:=Z zx;have f0:=bQ 0;have f1:=bQ 1;unfold bz bc at*;go_wp2;obtain⟨t0,t1⟩:=aW r0 r1 (.int .i64 0) (.int .i64 0);refine Θ (v:=.tuple #[.agg #[.int .i64 0,.int .i64 0],.iface 424 (.pointer (some (e a)))]) (by simp[results,results101,go_sem,t0,t1];try rfl) rfl ?_;exact(Z qF) _ ((Z Gv).rx (Z zx) _ _) (((bD.below (Z jI)).fresh (ζ _) 0 _).fresh (ζ _) 1 _)
   ·obtain rfl:x'=x2:=by omega
    have hP:=Z HP;have TP:=hP.mf i hik;have Gn:=hP.d.bd i hik;have YT:bD [none] N0 w2 w3:=bD.maps K3 Gn.f Gn.t TP.1 TP.2;have kV:fA 0 mn u (V i)=2:=by
     have:=List.find?_some ER;simpa using this
    have AL:=hP.d.ok i hik;have Gw:=qG AL kV;have AO:=hP.ow.fresh AL kV;have hP3:PS N0 w3 c z ly sz m bs Q mn lw hi k nb fm F (up V i (kC 0 (V i))) fr:=⟨D3,hP.c.same (YT.ep (by decide)) (λj E=>K3.block _ (hP.c.ym.YL E) (hP.ml i hik j E).1 (hP.ml i hik j E).2),hP.ow.take hik AL kV,hP.mf,hP.k4,hP.ml⟩;have hR3:=(Z HR).c YT (by decide);have G4:=χ (γ w3.heap.size w3) (.cells #[.int .i64 (i:Int),.int .i64 at',.int .i64 0] 293);have IL:=hP3.b G4;have VR:=hR3.b G4;have wL:bD K4 N0 w _:=((Z HC).trans (YT.mono (by decide) (ζ _))).trans (bD.below G4);have hlen:=o_ hP;rw[<- hat]at Gw AO;have HAD:=I (Q9 N0 c z ly sz m bs Q i at' _ IL.c AO (by have:=hP.k4;omega) ⟨Gw.1,Gw.2.1⟩ hlen);have q:=θ w3 #[.int .i64 (i:Int),.int .i64 at',.int .i64 0] 293;have q0:=q 0;have q1:=q 1;have q2:=q 2;simp only[Δ,υ,ω]at q0 q1 q2;have xM:Hid (∀b q w',Pos Q i at' q->PS N0 w' c z ly sz m (Sb.ins bs q b) (Sb.ins Q q ⟨i,at',1⟩) mn lw hi k nb fm F (up V i (kC 0 (V i))) fr->bD K4 N0 w w'->TR (.returned (.tuple #[bz i (at'*64),.nilIface])) w'):=λb q w' G O h3=>(Z RW) x' i b q at' w' rfl sN (Z HB) ER hik hat G O h3;have YU:Hid ((at',0)∈(up V i (kC 0 (V i)) i).T):=by rw[gJ];exact Gw.2.2.2.1
    have KS:Hid (0<=at'/\at'<256):=⟨Gw.1,Gw.2.1⟩;have Gv:=I IL;have zx:=I VR;have xO:=I wL;clear hP TP Gn YT kV AL Gw AO hP3 hR3 G4 IL VR wL q D3 K3 ER hat KR Rt HP HR eA HC RN RW hlen hx2 aaC;generalize up V i (kC 0 (V i))=pZ at*;go_upto_region 6 with(fail);generalize w3.alloc (.cells #[.int .i64 (i:Int),.int .i64 at',.int .i64 0] 293)=W4 at*;unfold ptr sM at*;go_wp2_with fail;refine(Z HAD).mono ?_;rintro ev w5⟨b,q,hev,jw,_,sP,zy⟩;obtain rfl:ev=.returned (.pointer (some ⟨b,0,none⟩)):=hev;have IL:=Z Gv;obtain⟨s,hs⟩:∃s:Sl,s=⟨i,at',0⟩:=⟨_,rfl⟩;rw[<- hs]at sP;have hP5:PS N0 w5 c z ly sz m (Sb.ins bs q b) (Sb.ins Q q s) mn lw hi k nb fm F pZ fr:=⟨AB IL.d zy (by decide) (by decide),sP,IL.ow.ins (by rw[hs];exact⟨hik,Z YU⟩) q,IL.mf,IL.k4,IL.ml⟩;have VS:q<(Sb.ins Q q s).length:=by rw[ek];have:=jw.1;omega
    have eb:(Sb.ins bs q b)[q]?=some b:=by rw[cF _ (by rw[IL.c.len];exact jw.1),ai (by omega),af rfl]
    have es:(Sb.ins Q q s)[q]?=some s:=by rw[cF _ jw.1,ai (by omega),af rfl]
    have hS:=sP.sl q b s eb es;have eH:=sP.ok s (aH es);have jR:pop s.bm m<m:=by rw[hs];simp only;rw[iT];omega
    obtain⟨Gl,hf2,hf3⟩:=ky eH.2.2.1 nO.2 jR;have hC:=(Z xO).trans (zy.mono (by decide) (ζ _));have IH:Hid (∀w',PS N0 w' c z ly sz m (Sb.ins bs q b) ((Sb.ins Q q s).set q {s with bm:=s.bm||| 2^ff s.bm}) mn lw hi k nb fm F pZ fr->bD K4 N0 w w'->TR (.returned (.tuple #[bz s.V (s.at_*64+ff s.bm*sz),.nilIface])) w'):=λw' G O=>by
     rw[mB jw.1]at G;subst hs;simp only[CN]at G ⊢;have e1:(at'*64+((0:Nat):Int)*sz)=at'*64:=by simp
     rw[e1];exact(Z xM) b q w' jw G O
    obtain⟨X,hX⟩:∃X,X=18446744073709551615-s.bm:=⟨_,rfl⟩;have Pj:Hid (Calls prog 173 #[.int .u64 (X:Int)] w5 λe w'=>e=.returned (.int .i64 (ff s.bm))/\w'=w5):=by
     have VO:ff s.bm=Lib.ctz 64 X:=by rw[hX];rfl
     rw[VO];exact CO X (by omega) w5 e ((Z HEC) _ hC)
    have VP:Hid (bits .xor .u64 (if IntKind.u64.signed=true then -1 else IntKind.u64.max) (s.bm:Int)=(X:Int)):=by
     rw[show(if IntKind.u64.signed=true then(-1:Int)else IntKind.u64.max)=IntKind.u64.max from rfl,hX];exact CM s.bm (iU eH.2.2.1 nO.2)
    clear hX;have c3:=hS.c3;have f3:=hS.fz 3;have HP:=I hP5;have HR:=I ((Z zx).c zy (by decide));have HC:=I hC;have HS:=I hS;have II:=I eH;have Gt:=I eb;have Gu:=I es;clear HAD IL hs hP5 eb es hS eH jR hf2 hf3 hC jw sP zy xM Gv zx xO YU KS q0 q1 q2;go_wp2_with (first|(go_at_call 173;rw[Z VP];refine(Z Pj).mono ?_;rintro ev w2⟨rfl,rfl⟩));have ET:ff s.bm<64:=by omega
    have jk:s.bm<2^m:=(Z II).2.2.1;have TQ:=IG s.bm (ff s.bm) (iU jk nO.2) ET;generalize ff s.bm=fi at*;have MM:s.bm||| 2^fi<2^m:=Hr jk Gl
    generalize MN:s.bm||| 2^fi=IJ at*
    go_region
    have hne:b≠w.heap.size:=(Z HS).tg.ne (Z HR).tg (by decide);have EU:=I (((Z HP).bit (Z Gt) (Z Gu) MM).b (dw _));have xI:Hid (bD K4 N0 w (w2.setCell ⟨b,3,none⟩ (.int .u64 (IJ:Int))).drew):=((Z HC).trans ((bD.set (Z HS).tg ((Z HP).c.bg b (aH (Z Gt))) 3 _).mono (by decide) (ζ _))).drew;have mU:=I ((Z HR).c (bD.set (N:=0) (Z HS).tg (Γ _) 3 (.int .u64 (IJ:Int))).drew (by decide));have VQ:Hid (zt (w2.setCell ⟨b,3,none⟩ (.int .u64 (IJ:Int))).drew b {s with bm:=IJ}):=(Z EU).c.sl q b _ (Z Gt) (by rw[aP (by exact VS)]);generalize(w2.setCell ⟨b,3,none⟩ (.int .u64 (IJ:Int))).drew=W5 at*;have IK:=I (rC c b sz s.V s.at_ fi W5 (Z VQ).c0 (Z VQ).c1 (Z EU).c.c1 ⟨(Z II).1,(Z II).2.1⟩ ⟨(Z EU).c.mm.1,(Z EU).c.mm.2.1⟩ ⟨by omega,by omega⟩);clear TQ jk MN HP HC HR HS Pj c3 f3;unfold ptr bz at*;go_wp2_with (go_at_call 174;refine(Z IK).mono ?_;rintro ev w6⟨rfl,b6⟩;obtain⟨r0,r1,bQ,_⟩:=(Z mU).b b6;have f0:=bQ 0;have f1:=bQ 1);obtain⟨t0,t1⟩:=aW r0 r1 (.int .i64 (s.V:Int)) (.int .i64 (s.at_*64+(fi:Int)*sz));refine Θ (v:=.tuple #[.agg #[.int .i64 s.V,.int .i64 (s.at_*64+(fi:Int)*sz)],.nilIface]) (by simp[results,results101,go_sem,t0,t1];try rfl) rfl ?_;exact(Z IH) _ (((Z EU).b b6).rx ((Z mU).b b6) _ _) ((((Z xI).trans (bD.below b6)).fresh (ζ _) 0 _).fresh (ζ _) 1 _)
 ·rw[show decide (0<=x/\x<k)=false by simpa using hx];have E2:=((Z HE).below F2).v1;have l1:=aa w _ (Z HE).v1;simp only at l1;have hPE:=I (P2.rx R2 (.int .i64 0) (.int .i64 0));have hCE:=I (((bD.below F2:bD K4 N0 w w1).fresh (ζ _) 0 (.int .i64 0)).fresh (ζ _) 1 (.int .i64 0));have hq:=IE (r:=w.heap.size) E2 (by simp only;omega) (.int .i64 0) (.int .i64 0);obtain⟨t0,t1⟩:=aW R2.c0 R2.c1 (.int .i64 0) (.int .i64 0);have r0:=R2.c0;have r1:=R2.c1;have f0:=R2.fz 0;have f1:=R2.fz 1;clear RO RW F2 P2 R2 b1;go_wp2_with fail;go_region
  all_goals
   go_wp2;refine Θ (v:=.tuple #[.agg #[.int .i64 0,.int .i64 0],bc (e 1)]) (by simp[results,results101,go_sem,t0,t1,bc];try rfl) rfl ?_;exact(Z RN) 1 _ (by omega) ((Z hPE).b (dw _)) (Z hCE).drew (ε ⟨rfl,hx⟩)
end Mg
namespace Mg
open Fr Bd Zn Dz Sb
variable {N0 cp g i n:Nat}{w:World}{xs:List Bl}{ws:List (Nat×Nat)}
theorem fQ {c t r:Nat}(h:jQ N0 w c t r xs):Calls prog 166 #[.pointer (some ⟨t,0,none⟩)] w λev w'=>ev=.returned (.int .i64 xs.length)/\w'=w:=by
 obtain⟨v,e,o,_⟩:=h.c1;obtain⟨p,d,rfl⟩:=aX o;clear h o;go_enter func166,ntmps166;go_wp2;go_ret;exact⟨rfl,rfl⟩
theorem CP (N0 c:Nat)(w:World)(_hN:N0<=w.heap.size):Calls prog 145 #[.pointer (some ⟨c,0,none⟩)] w λev w'=>ev=.returned (.pointer (some ⟨w.heap.size,0,none⟩))/\w'=w.alloc (cD c):=by
 go_enter func145,ntmps145;go_wp2;go_ret;exact⟨rfl,rfl⟩
theorem rF (N0 c:Nat)(w:World)(hN:N0<=w.heap.size):jQ N0 (w.alloc (cD c)) c w.heap.size w.heap.size []:=
 ⟨θ w _ 286 0,⟨_,θ w _ 286 1,Ξ _ _ _ _,ε ⟨rfl,rfl⟩⟩,bB _ _ _,hN,λo=>aG _ _ w.heap.size o rfl⟩
theorem rG {d:Nat}(e1:w.cell? ⟨d,1,none⟩=some (.slice (some ⟨g,0,none⟩) n cp))(hi:i<n):
  Calls prog 98 #[.pointer (some ⟨d,0,none⟩),.int .i64 (i:Int)] w λev w'=>ev=.returned (.tuple #[.pointer (some ⟨g,i*2,none⟩),.nilIface])/\Below w.heap.size w w':=by
 have h0:decide ((i:Int)<0)=false:=by simp
 have G:decide ((i:Int)>=n)=false:=by simp;omega
 have O:(0:Int)<=i:=by omega
 have h3:(i:Int)<n:=by omega
 go_enter func98,ntmps98;go_wp2;go_ret2;exact⟨rfl,γ _ _⟩
theorem t_ {d:Nat}(e1:w.cell? ⟨d,1,none⟩=some (.slice (some ⟨g,0,none⟩) n cp)){x:Int}(hx:x<0\/(n:Int)<=x)(e:Nat->Addr)(he:gj w e):
  Calls prog 98 #[.pointer (some ⟨d,0,none⟩),.int .i64 x] w λev w'=>ev=.returned (.tuple #[.pointer none,bc (e 1)])/\Below w.heap.size w w':=by
 have E1:=he.v1;clear he;unfold bc at*;by_cases hx0:x<0
 ·have h0:decide (x<0)=true:=by simpa using hx0
  go_enter func98,ntmps98;go_wp2;go_quiet (fail);go_wp2;go_ret2;exact⟨rfl,iB (γ _ _) _⟩
 ·have h0:decide (x<0)=false:=by simpa using hx0
  have G:decide (x>=n)=true:=by simp;omega
  go_enter func98,ntmps98;go_wp2;go_quiet (fail);go_wp2;go_ret2;exact⟨rfl,iB (γ _ _) _⟩
theorem ua:∀(l:List (Nat×Nat)) (i:Nat) (a b:Nat),((eB l).set (i*2) (ptr a)).set (i*2+1) (ptr b)=eB (l.set i (a,b))
 |[],i,a,b=>by simp[eB]
 |y::l,0,a,b=>rfl
 |y::l,i+1,a,b=>by
  have:=ua l i a b;have e:eB (y::l)=ptr y.1::ptr y.2::eB l:=rfl;have e2:eB ((y::l).set (i+1) (a,b))=ptr y.1::ptr y.2::eB (l.set i (a,b)):=rfl;rw[e,e2,show(i+1)*2=i*2+1+1 from by omega,<- this];rfl
theorem IM (ho:w.ownsRow N0 177 2 (.slice (some ⟨g,0,none⟩) ws.length cp) ws.length (eB ws))(i a b:Nat):
  ((w.setCell ⟨g,i*2,none⟩ (ptr a)).setCell ⟨g,i*2+1,none⟩ (ptr b)).ownsRow N0 177 2 (.slice (some ⟨g,0,none⟩) ws.length cp) ws.length (eB (ws.set i (a,b)))/\bD [some 177] N0 w ((w.setCell ⟨g,i*2,none⟩ (ptr a)).setCell ⟨g,i*2+1,none⟩ (ptr b))/\Kept g g w ((w.setCell ⟨g,i*2,none⟩ (ptr a)).setCell ⟨g,i*2+1,none⟩ (ptr b)):=by
 have hg:N0<=g:=(ho.lt g rfl).1;have ht:Tag w g 177:=by
  rcases ho.2 with⟨e,_⟩|⟨g',cap,cur,e,_,hh,_⟩
  ·cases e
  ·simp only[ψ,τ,av]at e;obtain⟨⟨rfl,_⟩,_⟩:=e;exact⟨cur,_,hh⟩
 have G:=(ho.stored (i*2) (ptr a)).1;have O:=(G.stored (i*2+1) (ptr b)).1;rw[ua]at O;exact⟨O,(bD.set ht hg _ _).trans (bD.set (ht.set _ _) hg _ _),(bA _ _ _).trans (bA _ _ _)⟩
theorem MO (ho:w.ownsRow N0 177 2 (.slice (some ⟨g,0,none⟩) ws.length cp) ws.length (eB ws)){a b:Nat}(hi:ws[i]?=some (a,b)):
  Calls prog 167 #[.pointer (some ⟨g,i*2,none⟩)] w λev w'=>ev=.returned (.tuple #[])/\w'.ownsRow N0 177 2 (.slice (some ⟨g,0,none⟩) ws.length cp) ws.length (eB (ws.set i (b,a)))/\bD [some 177] N0 w w'/\Kept g g w w':=by
 obtain⟨e0,e1⟩:=mz ws i (a,b) hi;have hn:i<ws.length:=(ν.mp hi).1;have x0:=(ho.cellAt (i*2) (by omega)).trans e0;have x1:=(ho.cellAt (i*2+1) (by omega)).trans e1;have f0:=ho.frozenAt (i*2);have f1:=ho.frozenAt (i*2+1);unfold ptr at x0 x1;go_enter func167,ntmps167;go_wp2;go_region
 go_end0;obtain⟨G,O,h3⟩:=IM ho i b a;exact⟨rfl,aN G (dw _),(O.trans (bD.below (dw _))),h3.trans (dY (dw _))⟩
theorem AU {o:Bl}(h:(xs++[o]).Nodup):(xs++[o]).filter (iV o.1 o.2)=xs:=by
 have hno:o∉xs:=by
  intro hm;have:=aF.1 h;exact this.2.2 o hm o (by simp) rfl
 rw[cE];have e1:xs.filter (iV o.1 o.2)=xs:=cG.2 (λx hx=>by
  unfold iV;have:¬(x.1=o.1/\x.2=o.2):=λ⟨G,O⟩=>hno (by rw[show o=x from Prod.ext G.symm O.symm];exact hx);simp[this])
 have e2:[o].filter (iV o.1 o.2)=[]:=by simp[iV]
 rw[e1,e2,dF]
structure Kp (S:Nat->Prop)(w w':World):Prop where
 os:w'.os=w.os
 tape:w'.tape=w.tape
 output:w'.output=w.output
 size:w.heap.size<=w'.heap.size
 blk:∀k,k<w.heap.size->¬S k->w'.heap[k]?=w.heap[k]?
section
variable {S T:Nat->Prop}{w w1 w':World}
theorem Kp.below (h:Below w.heap.size w w'):Kp S w w':=⟨h.os,h.tape,h.output,h.size,λk D _=>h.block k D⟩
theorem Kp.refl (S:Nat->Prop)(w:World):Kp S w w:=Kp.below (γ _ _)
theorem Kp.trans (h:Kp S w w1)(k:Kp S w1 w'):Kp S w w':=⟨k.os.trans h.os,k.tape.trans h.tape,k.output.trans h.output,σ h.size k.size,λj E hn=>(k.blk j (ι E h.size) hn).trans (h.blk j E hn)⟩
theorem Kp.kept {A B:Nat}(h:Kept A B w w')(hA:S A)(hB:S B):Kp S w w':=⟨h.os,h.tape,h.output,h.size,λk D hn=>h.block k D (λe=>hn (e▸hA)) (λe=>hn (e▸hB))⟩
theorem Kp.mono (h:Kp S w w')(hs:∀k,k<w.heap.size->S k->T k):Kp T w w':=⟨h.os,h.tape,h.output,h.size,λk D hn=>h.blk k D (λhS=>hn (hs k D hS))⟩
theorem Kp.cell (h:Kp S w w'){p:Addr}(hp:p.block<w.heap.size)(hn:¬S p.block):w'.cell? p=w.cell? p:=η (w:=w) (h.blk p.block hp hn)
theorem Kp.set (w:World)(b o:Nat)(v:Value)(J:S b):Kp S w (w.setCell ⟨b,o,none⟩ v):=Kp.kept (bA w o v) J J
end
variable {N0 cap g mb n r t:Nat}{w w':World}{xs:List Bl}{f:Int->Int->Option Nat}
theorem MP {n':Nat}{xs ys:List Value}(h:w.ownsRow N0 34 2 (.slice (some ⟨g,0,none⟩) n cap) n xs)(cur':Array Value)(J:w'.heap[g]?=some (.cells cur' 34 (0,0)))(hs:cur'.size=cap*2)(hn:n'<=cap)(hl:ys.length=n'*2)(hy:cur'.toList.take (n'*2)=ys):w'.ownsRow N0 34 2 (.slice (some ⟨g,0,none⟩) n' cap) n' ys:=by
 rcases h.2 with⟨e,_⟩|⟨g',cap',cur,e,hg,hh,G,O,h3,h4⟩
 ·cases e
 ·simp only[ψ,τ,av,bI,aZ]at e;obtain⟨rfl,rfl⟩:=e;exact⟨hl,δ ⟨g,cap,cur',rfl,hg,J,hn,O,hs,hy⟩⟩
theorem IQ (xs:List Bl)(cur:Array Value)(_hl:xs.length*2<=cur.size)(h:∀i,i<xs.length->cur[i*2]?=some (.int .i64 (xs.getD i (0,0)).1)/\cur[i*2+1]?=some (.int .i64 (xs.getD i (0,0)).2)):cur.toList.take (xs.length*2)=flat xs:=by
 apply dN;intro j;rw[eN];by_cases E:j<xs.length*2
 ·rw[af E];have G:=h (j/2) (by omega);have O:=gO xs (j/2) (by omega);have e3:xs.getD (j/2) (0,0)=xs[j/2]:=getD_lt (by omega);rw[e3]at G;rcases(by omega:j=j/2*2\/j=j/2*2+1)with e|e
  ·rw[e,Array.getElem?_toList,G.1,dZ (j/2) 2,O.1]
  ·rw[e,Array.getElem?_toList,G.2,dZ (j/2) 2,O.2]
 ·rw[ai E];exact(eQ (by rw[cd];omega)).symm
theorem IU {ys:List Bl}(h:w.ownsRow N0 34 2 (.slice (some ⟨g,0,none⟩) n cap) n (flat xs))(hf:Fm g w w')(hr:Row w' g ys)(hn:ys.length<=n):w'.ownsRow N0 34 2 (.slice (some ⟨g,0,none⟩) ys.length cap) ys.length (flat ys):=by
 rcases id h.2 with⟨e,_⟩|⟨g',cap',cur,e,hg,hh,G,O,h3,h4⟩
 ·cases e
 ·simp only[ψ,τ,av,bI,aZ]at e;obtain⟨rfl,rfl⟩:=e;obtain⟨cur',e',s'⟩:=hf cur 34 hh;have K:∀j,w'.cell? ⟨g,j,none⟩=cur'[j]?:=λj=>cell_of_row w' g j cur' 34 (0,0) e';refine MP h cur' e' (by rw[s',h3]) (by omega) (cd ys) (IQ ys cur' (by rw[s',h3];omega) (λi hi=>?_));have:=hr.c i hi;rw[K,K]at this;exact this
theorem MQ {B:Nat}{L:List Bl}(h:w.ownsRow B 34 2 (.slice (some ⟨g,0,none⟩) L.length cap) L.length (flat L)):L.length<=cap/\Row w g L:=by
 rcases id h.2 with⟨e,_⟩|⟨g',cap',cur,e,J,hg,hle,gB,hcs,hx⟩
 ·cases e
 ·simp only[ψ,τ,av,bI,aZ]at e;obtain⟨rfl,rfl⟩:=e;refine⟨hle,λi hi=>?_,λo _=>by simp[World.frozen?,hg],(Array.getElem?_eq_some_iff.1 hg).1⟩;have hf:=gO L i hi;rw[au,ξ hi,bY];rw[dZ i 2];exact⟨(h.cellAt (2*i) (by omega)).trans hf.1,(h.cellAt (2*i+1) (by omega)).trans hf.2⟩
theorem Ml.ne {q:Nat}(h:Ml w mb q f){b:Nat}(ht:Tag w b t):b≠mb:=λe=>by
 obtain⟨o,G,O⟩:=h.aQ;obtain⟨cur,fz,h3⟩:=ht;rw[<- e,h3]at G;rw[<- ah G]at O;cases O
theorem jQ.ne {c q:Nat}(h:jQ N0 w c t r xs)(hm:Ml w mb q f):t≠mb/\r≠mb:=by
 refine⟨hm.ne h.tg,?_⟩;rcases h.row with e|h'
 ·rw[e];exact hm.ne h.tg
 ·exact hm.ne h'.1
theorem jQ.form {c:Nat}(h:jQ N0 w c t r xs)(hn:xs≠[]):∃cp,w.cell? ⟨t,1,none⟩=some (.slice (some ⟨r,0,none⟩) xs.length cp)/\w.ownsRow N0 34 2 (.slice (some ⟨r,0,none⟩) xs.length cp) xs.length (flat xs)/\r≠t:=by
 obtain⟨v,e,o,hv⟩:=h.c1;have hl:0<xs.length:=aU.2 hn;obtain⟨g,cap,hv',_⟩:=o.form hl;rcases hv with⟨rfl,_⟩|⟨cp,rfl⟩
 ·cases hv'
 ·refine⟨cp,e,o,λe2=>?_⟩;have:Tag w r 34:=by
   rcases o.2 with⟨e3,_⟩|⟨g',cap',cur,e3,_,hh,_⟩
   ·cases e3
   ·simp only[ψ,τ,av]at e3;obtain⟨⟨rfl,_⟩,_⟩:=e3;exact⟨cur,_,hh⟩
  exact this.ne h.tg (by decide) e2
theorem Ml.set {q:Nat}(h:Ml w mb q f){b:Nat}(J:b≠mb)(o:Nat)(v:Value):Ml (w.setCell ⟨b,o,none⟩ v) mb q f:=h.blk (μ _ _ _ _ (λe=>J e.symm))
theorem aI {b e size:Nat}{v:Value}{xs:List Value}(h:w.ownsRow b e size v n xs)(J:∀g,v.ownBlock=some g->w'.heap[g]?=w.heap[g]?):w'.ownsRow b e size v n xs:=by
 refine⟨h.1,?_⟩;rcases h.2 with O|⟨g,cap,cur,rfl,O,h3,h4⟩
 ·exact ε O
 ·exact δ ⟨g,cap,cur,rfl,O,(J g rfl).trans h3,h4⟩
theorem EX (N0 c t r mb q:Nat)(f:Int->Int->Option Nat)(xs:List Bl)(o:Bl)(w:World)(c3:w.cell? ⟨c,3,none⟩=some (.map (some mb)))(hm:Ml w mb q f)(hT:jQ N0 w c t r (xs++[o]))(hw:W2 o.1 o.2)(hf:f o.1 o.2=some t)(hnd:(xs++[o]).Nodup)(hlen:(xs++[o]).length<=256)(_hcm:c≠mb):
  Calls prog 169 #[.pointer (some ⟨c,0,none⟩),.agg #[.int .i64 o.1,.int .i64 o.2]] w λev w'=>ev=.returned (.tuple #[])/\jQ N0 w' c t r xs/\Ml w' mb q (Ad f o.1 o.2 none)/\Kp (λk=>k=t\/k=r\/k=mb) w w':=by
 obtain⟨oN,oA⟩:=o;simp only at*;have F1:=χ (γ w.heap.size w) (cB oN oA);have q':=θ w #[.int .i64 oN,.int .i64 oA] 34;have q0:=q' 0;have q1:=q' 1;have eR:=aa w _ c3;have d3:=(F1.cell (p:=⟨c,3,none⟩) eR).trans c3;have hbl:w.heap.size<(w.alloc (cB oN oA)).heap.size:=by simp
 have hr:∀n,(Instr.lookup 245 (.map (some mb)) (.agg #[.int .i64 oN,.int .i64 oA]) false).run prog ((w.alloc (cB oN oA)).drewN n)=.ok (.pointer (some ⟨t,0,none⟩)) ((w.alloc (cB oN oA)).drewN n):=λn=>by
  have:=(hm.b F1).OV hw n;rw[hf]at this;exact this
 simp only[Δ,υ,ω]at q0 q1;have cZ:=I F1;have CS:=I (hm.b F1);have IV:=I (hT.b F1);have YV:=I eR;have zv:=hT.xG;have hne:=hT.ne hm;clear q' c3 hm hf hT F1;go_enter func169,ntmps169;go_upto_region 1 with(fail);generalize w.alloc (cB oN oA)=W at*;go_quiet (fail);have B2:Below W.heap.size W (W.drewN nq):=iB (γ _ _) _;have xQ:=I ((Z CS).b B2);have ni:=I ((Z IV).b B2);have eA:=I (bW (Z cZ) B2);have e3:=(B2.cell (p:=⟨c,3,none⟩) (by have:=(Z cZ).size;simp only;have:=Z YV;simp only at this;omega)).trans d3;have e0:=(B2.cell (p:=⟨w.heap.size,0,none⟩) hbl).trans q0;have e1:=(B2.cell (p:=⟨w.heap.size,1,none⟩) hbl).trans q1;have hb2:w.heap.size<(W.drewN nq).heap.size:=ι hbl B2.size;clear hr q0 q1 d3 CS IV cZ B2 hbl;generalize W.drewN nq=YW at*;obtain⟨w3,hd,M3,K3⟩:=((Z xQ).b (dw YW)).drop hw 0;have hdel:∀ty,(Builtin.delete_ #[245,34] ty #[.map (some mb),.agg #[.int .i64 oN,.int .i64 oA]]).run prog YW.drew=.ok (.tuple #[]) w3:=λ_=>hd;have T2:=Z ni;obtain⟨cp,s1,so,hrt⟩:=T2.form (by simp);have hcb:w.heap.size≠mb:=λe=>by
  have:=(Z xQ).ne (b:=w.heap.size) (t:=34);have hl:=(Z xQ).lt;exact absurd e (by
   intro e;obtain⟨o,G,O⟩:=(Z xQ).aQ;rw[<- e]at G;unfold World.cell? at e0;simp only[G]at e0;cases o<;>simp_all [kind])
 have x1:=(K3.cell (p:=⟨t,1,none⟩) T2.tg.lt hne.1 hne.1).trans s1;have xf:=(π (w:=YW) (a:=⟨t,1,none⟩) (K3.block t T2.tg.lt hne.1 hne.1)).trans (T2.fz 1);have y0:=(K3.cell (p:=⟨w.heap.size,0,none⟩) hb2 hcb hcb).trans e0;have y1:=(K3.cell (p:=⟨w.heap.size,1,none⟩) hb2 hcb hcb).trans e1;have so3:=aI so (w':=w3) (λg hg=>by
  simp only[Value.ownBlock,τ]at hg;subst hg;exact K3.block r (so.lt r rfl).2 hne.2 hne.2)
 obtain⟨hle,R3⟩:=MQ so3;have hs3:=K3.size;have aaE:w.heap.size<w3.heap.size:=ι hb2 hs3;have HOD:=I (AR (xs++[(oN,oA)]) r cp w.heap.size oN oA w3 R3 hlen hle y0 y1 aaE (by omega));have IW:Hid (Kp (λk=>k=t\/k=r\/k=mb) w w3):=((Kp.below (bW (Z eA) (dw YW))).trans (Kp.kept K3 (δ (δ rfl)) (δ (δ rfl))));have vC:=I (T2.same (w':=w3) (K3.block t T2.tg.lt hne.1 hne.1) (K3.block r T2.xG hne.2 hne.2));have Ru:=I M3;have YX:=I so3;clear R3 so so3 s1 hd y0 y1 T2 xQ ni eA M3 hle;rw[AU hnd]at HOD;have nk:=I (show xs.length<=(xs++[(oN,oA)]).length by simp);generalize xs++[(oN,oA)]=L at*;go_wp2_with fail;go_region
 clear e0 e1 e3 hdel;go_wp2_with fail;refine(Z HOD).mono ?_;rintro ev w4⟨k4,M,rfl,rfl,R4⟩;have T3:=Z vC;have x14:=(k4.k.cell (p:=⟨t,1,none⟩) T3.tg.lt (cV hrt) (cV hrt)).trans (x1);have xf4:=(π (w:=w3) (a:=⟨t,1,none⟩) (k4.k.block t T3.tg.lt (cV hrt) (cV hrt))).trans xf;have zx:=I R4;have YY:=I k4;clear R4 k4 HOD;go_wp2;go_end0;have T3:=Z vC;have hb4:=(Z YY).k.block t T3.tg.lt (cV hrt) (cV hrt);have so4:=IU (Z YX) (Z YY).f (Z zx) (Z nk);have T4:Tag w4 t 286:=T3.tg.blk hb4;have h0:w4.cell? ⟨t,0,none⟩=some (ptr c):=(η (w:=w3) (a:=⟨t,0,none⟩) hb4).trans T3.c0;refine⟨rfl,⟨(bu (by simp)).trans h0,⟨_,fK x14,aI so4 (λg hg=>?_),δ ⟨cp,rfl⟩⟩,T4.set _ _,T3.ge,λo=>by rw[Ψ];exact(π (w:=w3) (a:=⟨t,o,none⟩) hb4).trans (T3.fz o)⟩,?_,?_⟩
 ·simp only[Value.ownBlock,τ]at hg;subst hg;exact μ _ _ _ _ hrt
 ·exact((Z Ru).blk ((Z YY).k.block mb (Z Ru).lt (cV hne.2) (cV hne.2))).set hne.1 _ _
 ·exact((Z IW).trans (Kp.kept (Z YY).k (δ (ε rfl)) (δ (ε rfl)))).trans (Kp.set _ t 1 _ (ε rfl))
theorem EY {c:Nat}(hT:jQ N0 w c t r []):
  Calls prog 100 #[.pointer (some ⟨t,0,none⟩)] w λev w'=>ev=.returned (.tuple #[.agg #[.int .i64 0,.int .i64 0],.bool false])/\Below w.heap.size w w':=by
 have F1:=χ (γ w.heap.size w) (cB 0 0);have R1:=cQ w;obtain⟨v,e,o,_⟩:=(hT.b F1).c1;obtain⟨p,d,rfl⟩:=aX o;clear hT o;simp only[aA]at e;obtain⟨r0,r1,bQ,_⟩:=R1;have f0:=bQ 0;have f1:=bQ 1;have hF:=I F1;clear F1 bQ;go_enter func100,ntmps100;go_upto_region 1 with(fail);generalize hW:w.alloc (cB 0 0)=W at*;obtain⟨t0,t1⟩:=aW r0 r1 (.int .i64 0) (.int .i64 0);go_wp2;refine Θ (v:=.tuple #[.agg #[.int .i64 0,.int .i64 0],.bool false]) (by simp[results,results100,go_sem,t0,t1];try rfl) rfl ?_;exact⟨rfl,rE (Z hF) (ζ _) _ _⟩
theorem IX (N0 c t r mb q:Nat)(f:Int->Int->Option Nat)(xs:List Bl)(o:Bl)(w:World)(c3:w.cell? ⟨c,3,none⟩=some (.map (some mb)))(hm:Ml w mb q f)(hT:jQ N0 w c t r (xs++[o]))(hw:W2 o.1 o.2)(hf:f o.1 o.2=some t)(hnd:(xs++[o]).Nodup)(hlen:(xs++[o]).length<=256)(hcm:c≠mb):
  Calls prog 100 #[.pointer (some ⟨t,0,none⟩)] w λev w'=>ev=.returned (.tuple #[.agg #[.int .i64 o.1,.int .i64 o.2],.bool true])/\jQ N0 w' c t r xs/\Ml w' mb q (Ad f o.1 o.2 none)/\Kp (λk=>k=t\/k=r\/k=mb) w w':=by
 have F1:=χ (γ w.heap.size w) (cB 0 0);have R1:=cQ w;have eR:=aa w _ c3;simp only at eR;have T1:=hT.b F1;obtain⟨cp,s1,so,hrt⟩:=T1.form (by simp);have k0:=T1.c0;have hl:(xs++[o]).length=xs.length+1:=by simp
 have qo:=gO (xs++[o]) xs.length (by omega);have ho:(xs++[o])[xs.length]'(by omega)=o:=by simp
 rw[ho]at qo;have z0:=(so.cellAt (2*xs.length) (by omega)).trans qo.1;have z1:=(so.cellAt (2*xs.length+1) (by omega)).trans qo.2;rw[dZ 2]at z0 z1;rw[hl]at s1;have EZ:(0:Int)<=(xs.length:Int):=by omega
 have TT:(xs.length:Int)<((xs.length+1:Nat):Int):=by omega
 have hk2:((xs.length+1:Nat):Int)-1=(xs.length:Int):=by omega
 have hk3:(((xs.length+1:Nat):Int)==0)=false:=by simp;omega
 have hlN:xs.length<=256:=by omega
 have YV:Hid (∀w',Below (w.alloc (cB 0 0)).heap.size (w.alloc (cB 0 0)) w'->Calls prog 169 #[.pointer (some ⟨c,0,none⟩),.agg #[.int .i64 o.1,.int .i64 o.2]] w' λev w2=>ev=.returned (.tuple #[])/\jQ N0 w2 c t r xs/\Ml w2 mb q (Ad f o.1 o.2 none)/\Kp (λk=>k=t\/k=r\/k=mb) w' w2):=λw' J=>EX N0 c t r mb q f xs o w' (((bW F1 J).cell (p:=⟨c,3,none⟩) eR).trans c3) (hm.b (bW F1 J)) (T1.b J) hw hf hnd hlen hcm;have HT:=I T1;have HF:=I F1;have zv:=T1.xG;have uX:=T1.tg.lt;have hrw:=hT.xG;have htw:=hT.tg.lt;have hmw:=hm.lt;have HR:=I R1;obtain⟨oN,oA⟩:=o;simp only at*;clear T1 F1 hT hm c3 so hl qo ho hnd hlen hw hf R1;generalize xs.length=k at*;unfold ptr at k0;go_enter func100,ntmps100;go_upto_region 1 with(fail);generalize hW:w.alloc (cB 0 0)=W at*;go_wp2_with fail;go_region
 have B1:Below W.heap.size W (W.alloc (cB oN oA)).drew:=(χ (γ _ _) _).drew;have q':=θ W #[.int .i64 oN,.int .i64 oA] 34;have q0:(W.alloc (cB oN oA)).drew.cell? ⟨W.heap.size,0,none⟩=some (.int .i64 oN):=q' 0;have q1:(W.alloc (cB oN oA)).drew.cell? ⟨W.heap.size,1,none⟩=some (.int .i64 oA):=q' 1;have jk:W.heap.size<(W.alloc (cB oN oA)).drew.heap.size:=by show _<(W.alloc _).heap.size;rw[World.size_alloc];omega
 have y0:=(B1.cell (p:=⟨t,0,none⟩) uX).trans k0;have fk:=I ((Z HR).b B1);have hwW:w.heap.size<W.heap.size:=(Z HR).tg.lt;have MR:=I ((Z YV) (W.alloc (cB oN oA)).drew.drew B1.drew);have cZ:=I (bW (Z HF) B1);clear YV HR HT k0 s1 z0 z1 q' HF hW;have MK:W.heap.size≠t/\W.heap.size≠r/\W.heap.size≠mb:=⟨by omega,by omega,by omega⟩;have hsw:w.heap.size≠t/\w.heap.size≠r/\w.heap.size≠mb:=⟨by omega,by omega,by omega⟩;generalize(W.alloc (cB oN oA)).drew=W1 at*;generalize W.heap.size=b4 at*;go_wp2_with fail;have Pn:=I (show W1.drew.cell? ⟨t,0,none⟩=some (.pointer (some ⟨c,0,none⟩))/\W1.drew.cell? ⟨b4,0,none⟩=some (.int .i64 oN)/\W1.drew.cell? ⟨b4,1,none⟩=some (.int .i64 oA)from⟨y0,q0,q1⟩);go_region_held3 (λw'=>w'.cell? ⟨t,0,none⟩=some (.pointer (some ⟨c,0,none⟩))/\w'.cell? ⟨b4,0,none⟩=some (.int .i64 oN)/\w'.cell? ⟨b4,1,none⟩=some (.int .i64 oA)) ((first|exact Z Pn|(go_keep;done)|assumption)) ((first
  |(go_at_call 169;refine(Z MR).mono ?_;rintro ev w5⟨rfl,T5,M5,K5⟩;have MS:=I T5;have MT:=I M5;have AW:=I K5;have s5:w5.cell? ⟨t,0,none⟩=some (.pointer (some ⟨c,0,none⟩))/\w5.cell? ⟨b4,0,none⟩=some (.int .i64 oN)/\w5.cell? ⟨b4,1,none⟩=some (.int .i64 oA):=⟨T5.c0,(K5.cell (p:=⟨b4,0,none⟩) jk (by simp only;rintro(h|h|h);exact MK.1 h;exact MK.2.1 h;exact MK.2.2 h)).trans q0,(K5.cell (p:=⟨b4,1,none⟩) jk (by simp only;rintro(h|h|h);exact MK.1 h;exact MK.2.1 h;exact MK.2.2 h)).trans q1⟩;clear T5 M5 K5)))
 obtain⟨s50,s51,s52⟩:=s5;have Rv:=(Z fk).b (dw W1);have R5:=Rv.blk ((Z AW).blk w.heap.size Rv.tg.lt (by rintro(h|h|h);exact hsw.1 h;exact hsw.2.1 h;exact hsw.2.2 h));obtain⟨r0,r1,bQ,rt⟩:=R5;have f0:=bQ 0;have f1:=bQ 1;have RT:=I rt;obtain⟨t0,t1⟩:=aW r0 r1 (.int .i64 oN) (.int .i64 oA);clear MR Pn fk bQ rt q0 q1 y0 Rv;go_wp2;refine Θ (v:=.tuple #[.agg #[.int .i64 oN,.int .i64 oA],.bool true]) (by simp[results,results100,go_sem,t0,t1];try rfl) rfl ?_;have Il:∀k,k≠w.heap.size->((w5.setCell ⟨w.heap.size,0,none⟩ (.int .i64 oN)).setCell ⟨w.heap.size,1,none⟩ (.int .i64 oA)).heap[k]?=w5.heap[k]?:=λk D=>(μ _ _ _ _ D).trans (μ _ _ _ _ D);refine⟨rfl,(Z MS).same (Il t (by omega)) (Il r (by omega)),(Z MT).blk (Il mb (by omega)),?_⟩;have K6:Kp (λk=>k=t\/k=r\/k=mb) w w5:=(Kp.below ((Z cZ).drew)).trans (Z AW);exact⟨K6.os,K6.tape,K6.output,σ K6.size (by simp[World.setCell]),λk D hn=>(Il k (by omega)).trans (K6.blk k D hn)⟩
end Mg
namespace Sb
open Fr Bd Zn Dz
theorem E0 (q:Option Addr)(n c:Nat)(B:Nat->Nat)(X:Nat->Sl)(g:Nat)(lb:Array Value)(p:Nat->Bool)(eg:∀args w,(callFunc g args).run prog w=.ok (.enter g args) w)(w:World)
  (hz:tW w q n B X)(hn:n<=100000)(hp:∀i,i<n->∀W,Below w.heap.size w W->Calls prog g (#[ptr (B i)]++lb) W λev W'=>ev=.returned (.bool (p i))/\Below w.heap.size w W'):
  Calls prog 254 #[.slice q n c,.func (.func g) #[] lb] w λev w'=>∃r:Int,ev=.returned (.int .i64 r)/\Hn p n r/\Below w.heap.size w w':=by
 have HP:=I hp;clear hp;unfold ptr at*;go_enter func254,ntmps254;go_wp2;go_loopw [8] (λs wr=>∃i:Nat,s=.int .i64 i/\i<=n/\Below w.heap.size w wr/\Hid (∀j,j<i->p j=false)) (λs _=>n-(intOf s).toNat)
 case atStart=>exact⟨0,rfl,Γ _,γ _ _,λj E=>by omega⟩
 case round =>
  obtain⟨i,rfl,hi,J,ha⟩:=hrel;by_cases eY:i<n
  ·obtain⟨blk,rfl,hbl,K,_⟩:=hz i eY;unfold ptr at K;have hc2:=(J.cell (p:=⟨blk,i,none⟩) hbl).trans K;have ew:=(Z HP) i eY wr J;clear K hbl;generalize B i=y at hc2 ew;cases hq:p i with
   |true =>
    have HA:=I (show(∃i':Nat,i'<n/\((i:Int))=i'/\p i'=true/\∀j,j<i'->p j=false)from⟨i,eY,rfl,hq,Z ha⟩);rw[hq]at ew;have HC:=I ew;clear ew ha hq;go_wp2_with (go_at_fn g;refine(Z HC).mono ?_;rintro e w'⟨rfl,hb'⟩);go_ret;exact⟨_,rfl,δ (Z HA),hb'⟩
   |false =>
    have HA:=I (qB (Z ha) hq);rw[hq]at ew;have HC:=I ew;clear ew ha hq;go_wp2_with (go_at_fn g;refine(Z HC).mono ?_;rintro e w'⟨rfl,hb'⟩);go_roundw;case rel=>exact⟨i+1,by go_num,by omega,hb',HA⟩
    case measure=>simp[intOf];omega
  ·have nN:i=n:=by omega
   subst nN;go_wp2;go_ret;exact⟨_,rfl,ε ⟨rfl,Z ha⟩,J⟩
theorem VU:∀args w,(callFunc 253 args).run prog w=.ok (.enter 253 args) w:=fy func253 (by kernel_rfl) rfl
def VW (s:Sl)(oN oA:Int):Bool:=decide (oN=s.V/\s.at_*64<=oA/\oA<s.at_*64+64)
theorem E4 (c b cb ob:Nat)(sz:Int)(s:Sl)(oN oA:Int)(w:World)(hcb:w.cell? ⟨cb,0,none⟩=some (ptr c))(h0:w.cell? ⟨b,0,none⟩=some (.int .i64 s.V))(G:w.cell? ⟨b,1,none⟩=some (.int .i64 s.at_))(K:w.cell? ⟨c,1,none⟩=some (.int .i64 sz))(hs:1<=sz/\sz<=64)(ha:0<=s.at_/\s.at_<256)
  (o0:w.cell? ⟨ob,0,none⟩=some (.int .i64 oN))(o1:w.cell? ⟨ob,1,none⟩=some (.int .i64 oA)):
  Calls prog 253 (#[ptr b] ++ #[ptr cb,ptr ob]) w λev w'=>ev=.returned (.bool (VW s oN oA))/\Below w.heap.size w w':=by
 have HO:=I (rC c b sz s.V s.at_ 0 w h0 G K ha hs ⟨by omega,by omega⟩);rw[show s.at_*64+0*sz=s.at_*64 by simp]at HO;have lo:=aa w _ o0;simp only at lo;rw[show(#[ptr b] ++ #[ptr cb,ptr ob]:Array Value)=#[ptr b,ptr cb,ptr ob]from rfl];have hwr:IntKind.i64.wrap (s.at_*64+64)=s.at_*64+64:=aB _ (by omega);unfold VW;clear h0 G K;generalize(s.V:Int)=V at*;generalize hq:s.at_*64=q at*;have h64:0<=q/\q<=16384:=by omega
 clear ha hq;have arms:∃d1 d2 d3:Bool,(oN==V)=d1/\decide (oA>=q)=d2/\decide (oA<q+64)=d3/\decide (oN=V/\q<=oA/\oA<q+64)=(d1&&d2&&d3):=by
  refine⟨_,_,_,rfl,rfl,rfl,?_⟩;by_cases c1:oN=V<;>by_cases c2:q<=oA<;>by_cases c3:oA<q+64<;>simp[c1,c2,c3]
 obtain⟨d1,d2,d3,e1,e2,e3,e4⟩:=arms;rw[e4];clear e4;have HF:=I (λw' (J:Below w.heap.size w w')=>(⟨((χ (γ _ w') (cB V q)).cell (p:=⟨ob,0,none⟩) (ι lo J.size)).trans ((J.cell (p:=⟨ob,0,none⟩) lo).trans o0),((χ (γ _ w') (cB V q)).cell (p:=⟨ob,1,none⟩) (ι lo J.size)).trans ((J.cell (p:=⟨ob,1,none⟩) lo).trans o1),θ w' #[.int .i64 V,.int .i64 q] 34 0,θ w' #[.int .i64 V,.int .i64 q] 34 1⟩:(w'.alloc (cB V q)).cell? ⟨ob,0,none⟩=some (.int .i64 oN)/\(w'.alloc (cB V q)).cell? ⟨ob,1,none⟩=some (.int .i64 oA)/\(w'.alloc (cB V q)).cell? ⟨w'.heap.size,0,none⟩=some (.int .i64 V)/\(w'.alloc (cB V q)).cell? ⟨w'.heap.size,1,none⟩=some (.int .i64 q)));clear o0 o1;unfold ptr bz at*;go_enter func253,ntmps253;go_wp2_with fail;refine(Z HO).mono ?_;rintro ev w3⟨rfl,b3⟩;obtain⟨k0,k1,k2,k3⟩:=(Z HF) w3 b3;have F4:=χ b3 (cB V q);clear HO HF b3 hcb;go_upto_region 2 with(fail);generalize w3.alloc (cB V q)=W4 at*;cases d1
 ·go_wp2;go_ret;exact⟨rfl,F4⟩
 ·cases d2
  ·go_wp2;go_ret;exact⟨rfl,F4⟩
  ·go_wp2;go_ret;exact⟨rfl,F4⟩
theorem jA {m i:Nat}{sz:Int}(G:1<=sz)(hm:(m:Int)=64/sz)(hi:i<m):0<=(i:Int)*sz/\(i:Int)*sz+sz<=64:=by
 have O:(64:Int)/sz*sz<=64:=Int.ediv_mul_le _ (by omega);have h3:((i:Int)+1)*sz<=(m:Int)*sz:=Int.mul_le_mul_of_nonneg_right (by omega) (by omega);rw[Int.add_mul]at h3;exact⟨Int.mul_nonneg (by omega) (by omega),by rw[hm]at h3;omega⟩
inductive Rw (m:Nat)(sz:Int)(bs:List Nat)(Q:List Sl)(oN oA:Int)(w:World):Ending->World->Prop
 |no (w':World) (J:Below w.heap.size w w') (hr:∀j i,¬kz m sz Q (oN,oA) j i):Rw m sz bs Q oN oA w (.returned (.tuple #[.pointer none,.int .i64 0])) w'
 |yes (j i b:Nat) (s:Sl) (w':World) (hg:kz m sz Q (oN,oA) j i) (eb:bs[j]?=some b) (es:Q[j]?=some s) (hi:i<64) (J:Below w.heap.size w w'):Rw m sz bs Q oN oA w (.returned (.tuple #[.pointer (some ⟨b,0,none⟩),.int .i64 (i:Int)])) w'
theorem find_ok (N0:Nat)(c z:Nat)(ly:Ly)(sz:Int)(m:Nat)(bs:List Nat)(Q:List Sl)(oN oA:Int)(w:World)(h:DC N0 w c z ly sz m bs Q)(hlen:Q.length<=10000):
  Calls prog 209 #[ptr c,bz oN oA] w λev w'=>Rw m sz bs Q oN oA w ev w':=by
 have F2:=χ (χ (γ w.heap.size w) (.cells #[ptr c] 129)) (cB oN oA);have hs1:(w.alloc (.cells #[ptr c] 129)).heap.size=w.heap.size+1:=by simp
 have kc:((w.alloc (.cells #[ptr c] 129)).alloc (cB oN oA)).cell? ⟨w.heap.size,0,none⟩=some (ptr c):=((χ (γ _ _) _).cell (p:=⟨w.heap.size,0,none⟩) (by simp)).trans (θ w #[ptr c] 129 0);have ko:=θ (w.alloc (.cells #[ptr c] 129)) #[.int .i64 oN,.int .i64 oA] 34;rw[hs1]at ko;have VX:=ko 0;have VY:=ko 1;simp only[Δ,υ,ω]at VX VY;have hs2:((w.alloc (.cells #[ptr c] 129)).alloc (cB oN oA)).heap.size=w.heap.size+2:=by simp
 have P2:=h.b F2;have RN:Hid (∀w',Below w.heap.size w w'->(∀j i,¬kz m sz Q (oN,oA) j i)->Rw m sz bs Q oN oA w (.returned (.tuple #[.pointer none,.int .i64 0])) w'):=λw' G O=>.no w' G O;have RY:Hid (∀j i b s w',kz m sz Q (oN,oA) j i->bs[j]?=some b->Q[j]?=some s->i<64->Below w.heap.size w w'->Rw m sz bs Q oN oA w (.returned (.tuple #[.pointer (some ⟨b,0,none⟩),.int .i64 (i:Int)])) w'):=λj i b s w' G O h3 h4 h5=>.yes j i b s w' G O h3 h4 h5;have zz:=I P2;have eA:=I F2;clear h F2 P2 ko;generalize Rw m sz bs Q oN oA w=TR at*;unfold ptr bz at*;go_enter func209,ntmps209;go_upto_region 1 with(fail);generalize(w.alloc (.cells #[.pointer (some ⟨c,0,none⟩)] 129)).alloc (cB oN oA)=W at*;have hP:=Z zz;obtain⟨p,d,e2,o2⟩:=hP.c2;have TN:=hP.CI o2;have kn:=hP.len;have eR:=hP.tg.lt;have f_:=hP.mm;have nO:=hP.Pb;have kS:=I (E0 p Q.length d (λi=>bs.getD i 0) (λi=>Q.getD i default) 253 #[ptr w.heap.size,ptr (w.heap.size+1)] (λi=>VW (Q.getD i default) oN oA) VU W TN (by omega) (λi hi W' hW=>by
  obtain⟨b,s,eb,es,hS,eH⟩:=hP.slab hi;have hbl:=hS.tg.lt;simp only[getD_at eb,getD_at es];exact(E4 c b w.heap.size (w.heap.size+1) sz s oN oA W' ((hW.cell (p:=⟨w.heap.size,0,none⟩) (by rw[hs2];simp)).trans kc) ((hW.cell (p:=⟨b,0,none⟩) hbl).trans hS.c0) ((hW.cell (p:=⟨b,1,none⟩) hbl).trans hS.c1) ((hW.cell (p:=⟨c,1,none⟩) eR).trans hP.c1) ⟨f_.1,f_.2.1⟩ ⟨eH.1,eH.2.1⟩ ((hW.cell (p:=⟨w.heap.size+1,0,none⟩) (by rw[hs2];simp)).trans VX) ((hW.cell (p:=⟨w.heap.size+1,1,none⟩) (by rw[hs2];simp)).trans VY)).mono λev w' hh=>⟨hh.1,bW hW hh.2⟩))
 rw[kn]at e2;have YZ:=I TN;clear hP o2 TN;unfold ptr at*;go_wp2_with fail;refine(Z kS).mono ?_;rintro ev w3⟨r,rfl,hr,b3⟩;clear kS;have F3:=bW (Z eA) b3;have P3:=(Z zz).b b3;have kc3:=(b3.cell (p:=⟨w.heap.size,0,none⟩) (by rw[hs2];simp)).trans kc;have VZ:=(b3.cell (p:=⟨w.heap.size+1,0,none⟩) (by rw[hs2];simp)).trans VX;have V0:=(b3.cell (p:=⟨w.heap.size+1,1,none⟩) (by rw[hs2];simp)).trans VY;have V2:=(b3.cell (p:=⟨c,2,none⟩) eR).trans e2;have jN:w.heap.size+2<=w3.heap.size:=by have:=b3.size;omega
 rcases hr with⟨rfl,hnone⟩|⟨kk,jG,rfl,xR,_⟩
 ·have pY:∀j i,¬kz m sz Q (oN,oA) j i:=λj i ⟨s,es,hi,J,hn,ha⟩=>by
   have E:j<Q.length:=(ν.mp es).1;have:=hnone j E;simp only[getD_at es]at this;have xS:=jA f_.1 f_.2.2 hi;simp only at hn ha;unfold VW at this;simp only[decide_eq_false_iff_not]at this;exact this ⟨hn,by omega,by omega⟩
  have qF:=I ((Z RN) w3 F3 pY);clear RN RY hnone pY P3 F3 b3 e2 kc VX VY;go_wp2;exact Z qF
 ·obtain⟨b,s,eb,es,hS,eH⟩:=P3.slab jG;simp only[getD_at es]at xR;unfold VW at xR;simp only[dh]at xR;obtain⟨hnd,mM,hhi⟩:=xR;obtain⟨g,rfl,hg,cg,_⟩:=(Z YZ) kk jG;simp only[getD_at eb]at cg;have cg3:=(b3.cell (p:=⟨g,kk,none⟩) hg).trans cg;have EZ:(0:Int)<=kk:=by omega
  have TT:(kk:Int)<Q.length:=by omega
  obtain⟨dl,pV⟩:∃dl:Int,dl=oA-s.at_*64:=⟨_,rfl⟩;have MU:oA%64=dl:=by omega
  obtain⟨i,hi⟩:=bw (Int.ediv_nonneg (show 0<=dl by omega) (show 0<=sz by omega));have ET:i<64:=by
   have:dl/sz<=dl:=Int.ediv_le_self _ (by omega);omega
  have abJ:0<=oA:=by have:=eH.1;omega
  have TU:oA%64/sz=(i:Int):=by rw[MU];exact hi
  have c1:=P3.c1;have c3:=hS.c3;have f3:=hS.fz 3;have jk:=eH.2.2.1;have hbl:=hS.tg.lt;have Iw:=P3.tg.lt;have IK:=I (λw4 (J:Below w3.heap.size w3 w4)=>rC c b sz s.V s.at_ i w4 ((J.cell (p:=⟨b,0,none⟩) hbl).trans hS.c0) ((J.cell (p:=⟨b,1,none⟩) hbl).trans hS.c1) ((J.cell (p:=⟨c,1,none⟩) Iw).trans c1) ⟨eH.1,eH.2.1⟩ ⟨f_.1,f_.2.1⟩ ⟨by omega,by omega⟩);have Ry:=I (λw4 (h:w4.cell? ⟨b,3,none⟩=some (.int .u64 s.bm))=>vy b i s.bm w4 h ET (iU jk nO.2));have HK:=I (λw4 (J:Below w3.heap.size w3 w4)=>(⟨(J.cell (p:=⟨w.heap.size,0,none⟩) (by simp only;omega)).trans kc3,(J.cell (p:=⟨w.heap.size+1,0,none⟩) (by simp only;omega)).trans VZ,(J.cell (p:=⟨w.heap.size+1,1,none⟩) (by simp only;omega)).trans V0,(J.cell (p:=⟨b,3,none⟩) hbl).trans c3⟩:w4.cell? ⟨w.heap.size,0,none⟩=some (.pointer (some ⟨c,0,none⟩))/\w4.cell? ⟨w.heap.size+1,0,none⟩=some (.int .i64 oN)/\w4.cell? ⟨w.heap.size+1,1,none⟩=some (.int .i64 oA)/\w4.cell? ⟨b,3,none⟩=some (.int .u64 s.bm)));have pY:(oA=s.at_*64+i*sz/\s.bm.testBit i=true->kz m sz Q (oN,oA) kk i)/\(¬(oA=s.at_*64+i*sz/\s.bm.testBit i=true)->∀j i',¬kz m sz Q (oN,oA) j i'):=by
   refine⟨λ⟨G,O⟩=>⟨s,es,?_,O,hnd,G⟩,λhno j i' ⟨t,et,ti,tb,tn,ta⟩=>?_⟩
   ·rcases bC i m with h|h
    ·exact h
    ·have:=Nat.testBit_lt_two_pow (ι jk (gz (by omega) h));rw[this]at O;cases O
   ·have xS:=jA f_.1 f_.2.2 ti;simp only at tn ta;have e1:s.at_=t.at_:=by omega
    have e2:kk=j:=lO P3.so es et (by omega) e1;subst e2;rw[es]at et;cases et
    have e3:dl=i'*sz:=by omega
    have e4:(i:Int)=i':=by
     rw[<- hi,e3];exact Int.mul_ediv_cancel _ (by omega)
    have e5:i=i':=by omega
    subst e5;exact hno ⟨ta,tb⟩
  have HC:=I pY;have ud:=I P3;have fY:=I F3;have HS:=I hS;have Gt:=I eb;have Gu:=I es;clear pY P3 F3 hS eb es MU hi pV mM hhi eH YZ cg e2 kc VX VY b3;subst hnd;unfold ptr bz at*;go_wp2_with fail;go_quiet (fail);go_wp2_with fail;rw[TU];have Cv:Below w3.heap.size w3 (w3.drewN nq):=iB (γ _ _) _;generalize w3.drewN nq=W3 at*;obtain⟨x0,x1,x2,x3⟩:=(Z HK) W3 Cv;have E7:=I ((Z IK) W3.drew Cv.drew);have IW:=I (λw4 (J:Below W3.drew.heap.size W3.drew w4)=>(Z HK) w4 (bW Cv.drew J));have jI:=I (bW (Z fY) Cv);have Gv:=I ((Z ud).b Cv);have KQ:=I ((Z HS).b Cv);have f34:=(Z KQ).fz 3;have abl:w.heap.size+2<=W3.heap.size:=by have:=Cv.size;omega
  clear TU c3 f3 c1 kc3 VZ V0 cg3 V2 Cv IK HK zz ud fY HS;generalize hqq:s.at_*64+(i:Int)*sz=q at*;by_cases heq:oA=q
  ·subst heq;cases gZ:s.bm.testBit i with
   |true =>
    have HG:=I ((Z HC).1 ⟨rfl,gZ⟩);rw[gZ]at Ry;clear HC;go_region_held3 (λw'=>w'.cell? ⟨w.heap.size,0,none⟩=some (.pointer (some ⟨c,0,none⟩))/\w'.cell? ⟨w.heap.size+1,0,none⟩=some (.int .i64 (s.V:Int))/\w'.cell? ⟨w.heap.size+1,1,none⟩=some (.int .i64 oA)/\w'.cell? ⟨b,3,none⟩=some (.int .u64 s.bm)) ((first|(go_keep;done)|(exact(Z IW) _ (by assumption)))) ((first|(go_at_call 174;refine(Z E7).mono ?_;rintro ev w5⟨rfl,b5⟩;have y3:=((Z IW) w5 b5).2.2.2)|(go_at_call 214;refine((Z Ry) _ (by assumption)).mono ?_;rintro ev w5⟨rfl,rfl⟩)));have Gq:Below W3.heap.size W3 w5:=bd (w:=W3) b5;have iY:=I (bW (Z jI) Gq);clear b5 Gq E7 Ry IW Gv jI KQ x0 x1 x2 x3;go_wp2;exact(Z RY) kk i b s _ (Z HG) (Z Gt) (Z Gu) ET (Z iY)
   |false =>
    have HG:=I ((Z HC).2 (λh=>by rw[gZ]at h;cases h.2));rw[gZ]at Ry;clear HC;go_region_held3 (λw'=>w'.cell? ⟨w.heap.size,0,none⟩=some (.pointer (some ⟨c,0,none⟩))/\w'.cell? ⟨w.heap.size+1,0,none⟩=some (.int .i64 (s.V:Int))/\w'.cell? ⟨w.heap.size+1,1,none⟩=some (.int .i64 oA)/\w'.cell? ⟨b,3,none⟩=some (.int .u64 s.bm)) ((first|(go_keep;done)|(exact(Z IW) _ (by assumption)))) ((first|(go_at_call 174;refine(Z E7).mono ?_;rintro ev w5⟨rfl,b5⟩;have y3:=((Z IW) w5 b5).2.2.2)|(go_at_call 214;refine((Z Ry) _ (by assumption)).mono ?_;rintro ev w5⟨rfl,rfl⟩)));have Gq:Below W3.heap.size W3 w5:=bd (w:=W3) b5;have iY:=I (bW (Z jI) Gq);clear b5 Gq E7 Ry IW Gv jI KQ x0 x1 x2 x3;go_wp2;exact(Z RN) _ (Z iY) (Z HG)
  ·have qT:¬q=oA:=λh=>heq h.symm;have Ra:decide (q=oA)=false:=by simp[qT]
   have xU:(q==oA)=false:=by simp[qT]
   have HG:=I ((Z HC).2 (λh=>heq h.1));clear HC;refine wp_region_held_drew (S:=λw'=>w'.cell? ⟨w.heap.size,0,none⟩=some (.pointer (some ⟨c,0,none⟩))/\w'.cell? ⟨w.heap.size+1,0,none⟩=some (.int .i64 (s.V:Int))/\w'.cell? ⟨w.heap.size+1,1,none⟩=some (.int .i64 oA)/\w'.cell? ⟨b,3,none⟩=some (.int .u64 s.bm)) (by kernel_rfl) ((Z IW) _ (γ _ _)) (λhHeld=>?_);refine bJ (i:=0) (oi:={dst:=some 34,op:=.load 129 (.tmp 2),type:=129,pos:= "slab.go:149",after:=#[],guard:=none}) (v:=(.pointer (some ⟨c,0,none⟩))) rfl (by kernel_rfl) (by kernel_rfl) (by kernel_rfl) (λ_ _ _ h=>h) (ε ⟨by rfl,?_⟩) hHeld ?_
   ·intro w hSw;go_simp
   simp only[Act.put,aS,bP,bF];refine bJ (i:=1) (oi:={dst:=some 35,op:=.move (.tmp 8),type:=288,pos:= "slab.go:149",after:=#[],guard:=none}) (v:=(.pointer (some ⟨b,0,none⟩))) rfl (by kernel_rfl) (by kernel_rfl) (by kernel_rfl) (λ_ _ _ h=>h) (ε ⟨by rfl,?_⟩) hHeld ?_
   ·intro w hSw;go_simp
   simp only[Act.put,aS,bP,bF];refine bJ (i:=2) (oi:={dst:=some 36,op:=.move (.tmp 9),type:=3,pos:= "slab.go:149",after:=#[],guard:=none}) (v:=(.int .i64 i)) rfl (by kernel_rfl) (by kernel_rfl) (by kernel_rfl) (λ_ _ _ h=>h) (ε ⟨by rfl,?_⟩) hHeld ?_
   ·intro w hSw;go_simp
   simp only[Act.put,aS,bP,bF];refine bJ (i:=4) (oi:={dst:=some 38,op:=.load 34 (.tmp 3),type:=34,pos:= "slab.go:149",after:=#[],guard:=none}) (v:=(.agg #[.int .i64 s.V,.int .i64 oA])) rfl (by kernel_rfl) (by kernel_rfl) (by kernel_rfl) (λ_ _ _ h=>h) (ε ⟨by rfl,?_⟩) hHeld ?_
   ·intro w hSw;go_simp
   simp only[Act.put,aS,bP,bF];refine wpAnyH_ready (rs:=[3]) (by kernel_rfl) (by simp) ?_;refine ea (o:={dst:=some 37,op:=.call {callee:=.value (.func 174),args:=#[.tmp 34,.tmp 35,.tmp 36],argTypes:=#[129,288,3]},type:=34,pos:= "slab.go:149",after:=#[{on:=0,ground:=.data},{on:=1,ground:=.data},{on:=2,ground:=.data}],guard:=none}) rfl (λab9 hK=>?_) fc;go_simp;go_at_call 174;refine(Z E7).mono ?_;rintro ev w5⟨rfl,b5⟩;go_wp2_with fail;refine hK.out _ _ ((Z IW) _ b5) (λhHeld=>?_);clear hK ab9;refine bJ (i:=5) (oi:={dst:=some 39,op:=.binOp .neq 34 (.tmp 37) (.tmp 38) 34,type:=4,pos:= "slab.go:149",after:=#[{on:=3,ground:=.data},{on:=4,ground:=.data}],guard:=none}) (v:=(.bool true)) rfl (by kernel_rfl) (by kernel_rfl) (by kernel_rfl) (λ_ _ _ h=>h) (ε ⟨by rfl,?_⟩) hHeld ?_
   ·intro w hSw;go_simp
   simp only[Act.put,aS,bP,bF];refine bJ (i:=6) (oi:={dst:=some 40,op:=.move (.tmp 39),type:=4,pos:= "slab.go:149",after:=#[{on:=5,ground:=.data},{on:=3,ground:=.chain}],guard:=none}) (v:=(.bool true)) rfl (by kernel_rfl) (by kernel_rfl) (by kernel_rfl) (λ_ _ _ h=>h) (ε ⟨by rfl,?_⟩) hHeld ?_
   ·intro w hSw;go_simp
   simp only[Act.put,aS,bP,bF];refine bJ (i:=7) (oi:={dst:=some 41,op:=.move (.tmp 8),type:=288,pos:= "slab.go:149",after:=#[{on:=6,ground:=.guard}],guard:=some (6,false)}) (v:=undef) rfl (by kernel_rfl) (by kernel_rfl) (by kernel_rfl) (λ_ _ _ h=>h) (δ ⟨by rfl,rfl⟩) hHeld ?_;simp only[Act.put,aS,bP,bF];refine bJ (i:=8) (oi:={dst:=some 42,op:=.move (.tmp 9),type:=3,pos:= "slab.go:149",after:=#[{on:=6,ground:=.guard}],guard:=some (6,false)}) (v:=undef) rfl (by kernel_rfl) (by kernel_rfl) (by kernel_rfl) (λ_ _ _ h=>h) (δ ⟨by rfl,rfl⟩) hHeld ?_;simp only[Act.put,aS,bP,bF];refine bJ (i:=9) (oi:={dst:=some 43,op:=.call {callee:=.value (.func 214),args:=#[.tmp 41,.tmp 42],argTypes:=#[288,3]},type:=4,pos:= "slab.go:149",after:=#[{on:=7,ground:=.data},{on:=8,ground:=.data},{on:=6,ground:=.chain},{on:=6,ground:=.guard}],guard:=some (6,false)}) (v:=undef) rfl (by kernel_rfl) (by kernel_rfl) (by kernel_rfl) (λ_ _ _ h=>h) (δ ⟨by rfl,rfl⟩) hHeld ?_;simp only[Act.put,aS,bP,bF];refine bJ (i:=10) (oi:={dst:=some 44,op:=.unOp .not 4 (.tmp 43),type:=4,pos:= "slab.go:149",after:=#[{on:=9,ground:=.data},{on:=6,ground:=.guard}],guard:=some (6,false)}) (v:=undef) rfl (by kernel_rfl) (by kernel_rfl) (by kernel_rfl) (λ_ _ _ h=>h) (δ ⟨by rfl,rfl⟩) hHeld ?_;simp only[Act.put,aS,bP,bF];refine bJ (i:=11) (oi:={dst:=some 45,op:=.pick (.tmp 40) (.const (.bool true)) (.tmp 44),type:=4,pos:= "slab.go:149",after:=#[{on:=6,ground:=.data},{on:=10,ground:=.data}],guard:=none}) (v:=(.bool true)) rfl (by kernel_rfl) (by kernel_rfl) (by kernel_rfl) (λ_ _ _ h=>h) (ε ⟨by rfl,?_⟩) hHeld ?_
   ·intro w hSw;go_simp
   simp only[Act.put,aS,bP,bF];refine wpAnyH_done (by kernel_rfl) ?_ _;have Gq:Below W3.heap.size W3 w5:=bd (w:=W3) b5;have iY:=I (bW (Z jI) Gq);clear b5 Gq E7 Ry IW Gv jI KQ x0 x1 x2 x3;go_wp2;exact(Z RN) _ (Z iY) (Z HG)
end Sb
namespace Mg
open Fr Bd Zn Dz Sb
def iM (m:Nat)(sz:Int)(Q:List Sl)(a b:Int):Prop:=∃j i,kz m sz Q (a,b) j i
theorem iM.w2 {N0:Nat}{w:World}{c z:Nat}{ly:Ly}{sz:Int}{m:Nat}{bs:List Nat}{Q:List Sl}(h:DC N0 w c z ly sz m bs Q){a b:Int}(ht:iM m sz Q a b):W2 a b:=by
 obtain⟨j,i,s,es,hi,J,hn,ha⟩:=ht;have eH:=h.ok s (aH es);have xS:=jA h.mm.1 h.mm.2.2 hi;have LI:=eH.1;have V3:=eH.2.1;have hnd:=eH.2.2.2;have hs:=h.mm.1;simp only at hn ha;unfold W2;simp[Lit.wf,IntKind.min,IntKind.max,IntKind.signed,IntKind.bits];omega
def E9 (m:Nat)(sz:Int)(Q:List Sl)(f:Int->Int->Option Nat)(oN oA:Int)(w:World)(ev:Ending)(w':World):Prop:=Below w.heap.size w w'/\((ev=.returned (.bool true)/\iM m sz Q oN oA/\f oN oA=none)\/(ev=.returned (.bool false)/\¬(iM m sz Q oN oA/\f oN oA=none)))
theorem IY (N0:Nat)(c z:Nat)(ly:Ly)(sz:Int)(m:Nat)(bs:List Nat)(Q:List Sl)(oN oA:Int)(w:World)(h:DC N0 w c z ly sz m bs Q)(hlen:Q.length<=10000)(q:Nat)(f:Int->Int->Option Nat)(hm:Ml w ly.1 q f):
  Calls prog 155 #[.pointer (some ⟨c,0,none⟩),.agg #[.int .i64 oN,.int .i64 oA]] w λev w'=>E9 m sz Q f oN oA w ev w':=by
 have F1:=χ (γ w.heap.size w) (cB oN oA);have q':=θ w #[.int .i64 oN,.int .i64 oA] 34;have q0:=q' 0;have q1:=q' 1;simp only[Δ,υ,ω]at q0 q1;have hs1:w.heap.size<(w.alloc (cB oN oA)).heap.size:=by simp
 have P1:=h.b F1;have HFD:=I (find_ok N0 c z ly sz m bs Q oN oA _ P1 hlen);have Gs:=I P1;have CS:=I (hm.b F1);have cZ:=I F1;have HW:=I (λ(ht:iM m sz Q oN oA)=>ht.w2 h);have RT:Hid (∀w',Below w.heap.size w w'->iM m sz Q oN oA->f oN oA=none->E9 m sz Q f oN oA w (.returned (.bool true)) w'):=λw' G O h3=>⟨G,ε ⟨rfl,O,h3⟩⟩;have RF:Hid (∀w',Below w.heap.size w w'->¬(iM m sz Q oN oA/\f oN oA=none)->E9 m sz Q f oN oA w (.returned (.bool false)) w'):=λw' G O=>⟨G,δ ⟨rfl,O⟩⟩;clear h hm F1 P1 q';generalize E9 m sz Q f oN oA w=TR at*;unfold ptr bz at*;go_enter func155,ntmps155;go_upto_region 1 with(fail);generalize w.alloc (cB oN oA)=W at*;generalize mC:Rw m sz bs Q oN oA W=FR at HFD;go_wp2_with fail;refine(Z HFD).mono ?_;rintro ev w3 hf;rw[<- mC]at hf;clear HFD mC;cases hf with
 |no _ b3 hr =>
  have F3:=I (bW (Z cZ) b3);have e0:=(b3.cell (p:=⟨w.heap.size,0,none⟩) hs1).trans q0;have e1:=(b3.cell (p:=⟨w.heap.size,1,none⟩) hs1).trans q1;have HN:=I (show ¬(iM m sz Q oN oA/\f oN oA=none)from λ⟨⟨j,i,hg⟩,_⟩=>hr j i hg);clear RT Gs CS cZ HW b3 q0 q1 hr;go_wp2;go_quiet (fail);go_wp2;exact(Z RF) _ (iB (Z F3) _) (Z HN)
 |yes j i b s _ hg eb es hi b3 =>
  have F3:=I (bW (Z cZ) b3);have e0:=(b3.cell (p:=⟨w.heap.size,0,none⟩) hs1).trans q0;have e1:=(b3.cell (p:=⟨w.heap.size,1,none⟩) hs1).trans q1;have P3:=(Z Gs).b b3;have d3:=P3.ym.c3;have HT:Hid (iM m sz Q oN oA):=⟨j,i,hg⟩;have hw:=(Z HW) (Z HT);have hr:∀n,(Instr.lookup 245 (.map (some ly.1)) (.agg #[.int .i64 oN,.int .i64 oA]) false).run prog (w3.drewN n)=.ok (L8 (f oN oA)) (w3.drewN n):=λn=>((Z CS).b b3).OV hw n;cases xV:f oN oA with
  |none =>
   rw[xV]at hr;simp only[L8]at hr;have HO:=I xV;clear Gs CS cZ HW b3 q0 q1 hg eb es P3 RF xV hw;go_wp2;go_quiet (fail);go_wp2;exact(Z RT) _ (iB (Z F3) _) (Z HT) (Z HO)
  |some t =>
   rw[xV]at hr;simp only[L8]at hr;have HO:Hid (¬(iM m sz Q oN oA/\f oN oA=none)):=λ⟨_,O⟩=>by rw[xV]at O;cases O
   clear Gs CS cZ HW b3 q0 q1 hg eb es P3 RT xV hw;go_wp2;go_quiet (fail);go_wp2;exact(Z RF) _ (iB (Z F3) _) (Z HO)
end Mg
namespace Sb
open Fr Bd Zn Dz
theorem MV (N0 z:Nat)(sz:Int)(w:World)(G:1<=sz)(O:sz<=64)(hN:N0<=w.heap.size):
  Calls prog 66 #[ptr z,.int .i64 sz] w λev w'=>∃c m,∃ly:Nat×Obj,ev=.returned (.tuple #[ptr c,.nilIface])/\DC N0 w' c z (ly.1,ly.2,λ_=>none) sz m [] []/\w.heap.size<=ly.1/\ly.2=.map #[] 0/\Below w.heap.size w w':=by
 have d1:decide (sz<1)=false:=by simp;omega
 have d2:decide (sz>64)=false:=by simp;omega
 have f_:=@run_makeMap prog;unfold ptr at*;go_enter func66,ntmps66;go_wp2;go_ret2;have e1:(w.alloc (.map #[] 0)).heap.size=w.heap.size+1:=by simp
 have hq:=θ (w.alloc (.map #[] 0)) #[.pointer (some ⟨z,0,none⟩),.int .i64 sz,.slice none 0 0,.map (some w.heap.size)] 248;have ht:=bB (w.alloc (.map #[] 0)) #[.pointer (some ⟨z,0,none⟩),.int .i64 sz,.slice none 0 0,.map (some w.heap.size)] 248;have hf:=λo=>aG (w:=w.alloc (.map #[] 0)) #[.pointer (some ⟨z,0,none⟩),.int .i64 sz,.slice none 0 0,.map (some w.heap.size)] 248 (w.heap.size+1) o e1.symm;rw[e1]at hq ht;have h5:(0:Int)<=64/sz:=Int.ediv_nonneg (by omega) (by omega);refine⟨w.heap.size+1,(64/sz).toNat,(w.heap.size,.map #[] 0),rfl,⟨hq 0,hq 1,⟨none,0,hq 2,Ξ _ _ _ _⟩,ht,by omega,by simp,rfl,dm,λi b s h=>by simp at h,by simp,List.Pairwise.nil,hf,⟨G,O,by omega⟩,⟨hq 3,alloc_at (MapKept.heap_alloc w _).1,rfl,hN,λj o e=>by cases e⟩⟩,ζ _,rfl,χ (χ (γ _ _) _) _⟩
theorem IZ (c:Nat)(sz:Int)(w:World)(G:w.cell? ⟨c,1,none⟩=some (.int .i64 sz)):
  Calls prog 165 #[ptr c] w λev w'=>ev=.returned (.int .i64 sz)/\w'=w:=by
 unfold ptr;go_enter func165,ntmps165;go_wp2;go_ret;exact⟨rfl,rfl⟩
def mQ (m:Nat)(Q:List Sl):Nat->Nat
 |0=>0
 |i+1=>mQ m Q i+pop (Q.getD i default).bm m
theorem pd (m:Nat)(Q:List Sl):∀i,mQ m Q i<=i*m
 |0=>by simp[mQ]
 |i+1=>by
  have G:=pd m Q i;have O:=fu (Q.getD i default).bm m;rw[mQ,Nat.add_mul,Nat.one_mul];omega
structure Nb (w:World)(r:Nat)(v:Int):Prop where
 c:w.cell? ⟨r,0,none⟩=some (.int .i64 v)
 f:w.frozen? ⟨r,0,none⟩=false
theorem Nb.set {w:World}{r:Nat}{v:Int}(h:Nb w r v)(u:Int):Nb (w.setCell ⟨r,0,none⟩ (.int .i64 u)) r u:=⟨fK h.c,by rw[Ψ];exact h.f⟩
theorem Nb.off {w:World}{r q:Nat}{v:Int}(h:Nb w r v)(hne:q≠r)(u:Value):Nb (w.setCell ⟨q,0,none⟩ u) r v:=⟨(bu (by simp<;>exact hne)).trans h.c,by rw[Ψ];exact h.f⟩
theorem kD:(prog.info? 34).map (λi=>(i.zero,i.size,i.bytes))=some (some (.agg #[.int .i64 0,.int .i64 0]),2,16):=by kernel_rfl
structure Ob (base:Nat)(w:World)(r n:Nat)(xs:List Value):Prop where
 c:∃v,w.cell? ⟨r,0,none⟩=some v/\w.ownsRow base 34 2 v n xs
 f:w.frozen? ⟨r,0,none⟩=false
 t:Tag w r 32
 g:base<=r
theorem d_ {w:World}{base e size n:Nat}{v:Value}{xs:List Value}(h:w.ownsRow base e size v n xs){b t:Nat}(ht:Tag w b t)(hne:t≠e):some b≠v.ownBlock:=λe'=>by
 rcases h.2 with⟨e2,_⟩|⟨g,cap,cur,e2,hg,hh,_⟩
 ·rw[e2]at e';cases e'
 ·rw[e2]at e';simp only[Value.ownBlock,τ]at e';subst e';exact ht.ne ⟨cur,_,hh⟩ hne rfl
def Rc (base lb n:Nat)(xs:List Value)(bit:Bool)(u v:Value)(w:World)(ev:Ending)(w':World):Prop:=ev=.returned (.tuple #[])/\Below base w w'/\Ob base w' lb (if bit then n+1 else n) (if bit then xs++[u,v]else xs)
def py (sz:Int)(s:Sl):Nat->List Bl
 |0=>[]
 |j+1=>if s.bm.testBit j then py sz s j++[((s.V:Int),s.at_*64+j*sz)]else py sz s j
def oI (m:Nat)(sz:Int)(Q:List Sl):Nat->List Bl
 |0=>[]
 |i+1=>oI m sz Q i++py sz (Q.getD i default) m
theorem CU (sz:Int)(s:Sl):∀j,(py sz s j).length=pop s.bm j
 |0=>by simp[py,pop]
 |j+1=>by
  have h:=CU sz s j;rw[py,pop];split
  ·rw[φ,h];rfl
  ·rw[h];rfl
theorem vD (m:Nat)(sz:Int)(Q:List Sl):∀i,(oI m sz Q i).length=mQ m Q i
 |0=>by simp[oI,mQ]
 |i+1=>by rw[oI,mQ,φ,vD m sz Q i,CU]
end Sb
section
variable {W:World}{x y:Int}
theorem RA:∀j u,[Value.int .i64 x,.int .i64 y][j]?=some u->(W.alloc (cB x y)).cell? ((⟨W.heap.size,0,none⟩:Addr).add j)=some u:=by
 intro j u E
 match j,E with
 |0,E=>simp at E;subst E;simp[Addr.add]
 |1,E=>simp at E;subst E;simp[Addr.add]
theorem Pq:∀u∈[Value.int .i64 x,.int .i64 y],u.oneCell'=true:=by
 intro u hu;simp at hu;rcases hu with rfl|rfl<;>rfl
theorem Pr {ops:Array Oper}{rest:List Oper}{o:Oper}{a:Act}{ab5:Exit->Act->World->Prop}(hgd:o.guard=none)(s t:Operand)(ho:o.op=.call {callee:=.builtin .append,args:=#[s,t],argTypes:=#[32,32]})
  (B:Nat)(v:Value)(n:Nat)(xs:List Value)(hs:a.eval s=v)(hown:(W.alloc (cB x y)).ownsRow B 34 2 v n xs)(hx:a.eval t=.slice (some ⟨W.heap.size,0,none⟩) 1 1)(hn:n<=1000000)(hB:B<=(W.alloc (cB x y)).heap.size)
  (h:∀g cap w',w'.ownsRow B 34 2 (.slice (some ⟨g,0,none⟩) (n+1) cap) (n+1) (xs++[.int .i64 x,.int .i64 y])->(W.alloc (cB x y)).grownBy w' v.ownBlock->(v.ownBlock=some g\/g=(W.alloc (cB x y)).heap.size)->g<w'.heap.size->wpList prog ops ab5 rest (a.put o.dst (.slice (some ⟨g,0,none⟩) (n+1) cap)) w'):wpList prog ops ab5 (o::rest) a (W.alloc (cB x y)):=by
 obtain⟨i,hi,hz,G,O⟩:=aY Sb.kD;exact fF _ hgd s t 32 ho B 34 i _ 2 16 underlying32 hi hz G O rfl (by decide) v n xs hs hown _ 1 1 _ hx rfl RA Pq (by omega) (by unfold maxLen;omega) (by omega) hB _ rfl h
theorem MX:∀j u,[Value.int .i64 x,.int .i64 y][j]?=some u->(W.alloc (cB x y)).drew.cell? ((⟨W.heap.size,0,none⟩:Addr).add j)=some u:=by
 intro j u E
 match j,E with
 |0,E=>simp at E;subst E;simp[Addr.add]
 |1,E=>simp at E;subst E;simp[Addr.add]
theorem lT {ops:Array Oper}{o:Oper}{a:Act}{ab9:Act->World->Prop}{ab5:Exit->Act->World->Prop}{ab2:Prop}(hgd:o.guard=none)(s t:Operand)(ho:o.op=.call {callee:=.builtin .append,args:=#[s,t],argTypes:=#[32,32]})
  (B:Nat)(v:Value)(n:Nat)(xs:List Value)(hs:a.eval s=v)(hown:(W.alloc (cB x y)).drew.ownsRow B 34 2 v n xs)(hx:a.eval t=.slice (some ⟨W.heap.size,0,none⟩) 1 1)(hn:n<=1000000)(hB:B<=(W.alloc (cB x y)).drew.heap.size)
  (h:∀g cap w',w'.ownsRow B 34 2 (.slice (some ⟨g,0,none⟩) (n+1) cap) (n+1) (xs++[.int .i64 x,.int .i64 y])->(W.alloc (cB x y)).drew.grownBy w' v.ownBlock->(v.ownBlock=some g\/g=(W.alloc (cB x y)).drew.heap.size)->g<w'.heap.size->ab9 (a.put o.dst (.slice (some ⟨g,0,none⟩) (n+1) cap)) w'):
  if Region.wanted o (yielded ops a.tmps)=true then Oper.wp prog o a (W.alloc (cB x y)).drew ab9 ab5 else ab2:=by
 obtain⟨i,hi,hz,G,O⟩:=aY Sb.kD;exact bX _ hgd s t 32 ho B 34 i _ 2 16 underlying32 hi hz G O rfl (by decide) v n xs hs hown _ 1 1 _ hx rfl MX Pq (by omega) (by unfold maxLen;omega) (by omega) hB _ rfl h
end
namespace Sb
open Fr Bd Zn Dz
variable {m z:Nat}{V:Nat->Nd}{N hi lw mn:Int}{aca:List Bl}{w w':World}{nb:Nat->Nat}{fr:Nat->List Nat}
def jn (m:Nat):List Sl->Nat
 |[]=>0
 |s::l=>pop s.bm m+jn m l
theorem lW (m:Nat):∀(l k:List Sl),jn m (l++k)=jn m l+jn m k
 |[],k=>by simp[jn]
 |s::l,k=>by simp only[cJ,jn,lW m l k];omega
theorem yb (m:Nat)(l:List Sl)(q:Nat)(x:Sl):jn m (Sb.ins l q x)=jn m l+pop x.bm m:=by
 have h:jn m l=jn m (l.take q)+jn m (l.drop q):=by rw[<- lW,bS]
 unfold Sb.ins;rw[lW,jn,h];omega
theorem yc (m:Nat):∀(l:List Sl) (j:Nat) (s x:Sl),l[j]?=some s->jn m (l.set j x)+pop s.bm m=jn m l+pop x.bm m
 |[],j,s,x,h=>by simp at h
 |y::l,0,s,x,h=>by simp at h;subst h;simp only[bP,jn];omega
 |y::l,j+1,s,x,h=>by
  have:=yc m l j s x (by simpa using h);simp only[bF,jn];omega
theorem qJ (m:Nat):∀(l:List Sl),jn m l<=l.length*m
 |[]=>by simp[jn]
 |s::l=>by
  have G:=qJ m l;have O:=fu s.bm m;simp only[jn,bk,Nat.add_mul];omega
theorem uo (m:Nat):∀(l:List Sl),(∀s∈l,¬pop s.bm m<m)->jn m l=l.length*m
 |[],_=>by simp[jn]
 |s::l,h=>by
  have G:=uo m l (λt ht=>h t (aD _ ht));have O:=fu s.bm m;have h3:=h s (bh ..);simp only[jn,bk,Nat.add_mul];omega
theorem Nl (m:Nat){l:List Sl}{j:Nat}{s:Sl}(h:l[j]?=some s)(hp:pop s.bm m<m):jn m l<l.length*m:=by
 have E:j<l.length:=(ν.mp h).1;have e:l=Sb.ins (l.eraseIdx j) j s:=by
  unfold Sb.ins;rw[List.eraseIdx_eq_take_drop_succ];have G:(l.take j).length=j:=by simp;omega
  rw[List.take_append_of_le_length (by omega),List.take_take,Nat.min_self,List.drop_append_of_le_length (by omega),List.drop_eq_nil_of_le (by omega),aT];have O:l[j]=s:=(ν.mp h).2;rw[<- O,List.getElem_cons_drop,bS]
 have h3:=yb m (l.eraseIdx j) j s;rw[<- e]at h3;have h4:=qJ m (l.eraseIdx j);have h5:(l.eraseIdx j).length=l.length-1:=by rw[List.length_eraseIdx];simp[E]
 rw[h5]at h4;have h6:(l.length-1)*m+m=l.length*m:=by
  obtain⟨n,hn⟩:∃n,l.length=n+1:=⟨l.length-1,by omega⟩;rw[hn,Nat.add_mul];simp
 omega
theorem rL {x:Nat}(hx:x<2^m)(hm:m<=64)(hp:pop x m<m):pop (x||| 2^ff x) m=pop x m+1:=by
 obtain⟨G,O,_⟩:=ky hx hm hp;rw[Cx x (ff x) O m,af G]
theorem Nn {V:Nat}{Q:List Sl}(h:(dK m V Q Q.length).1=none)(hs:∀s∈Q,s.V=V):∀s∈Q,¬pop s.bm m<m:=by
 intro s hm;obtain⟨i,hi,e⟩:=bU hm;have e2:=ξ hi;rw[e]at e2;have:=nQ h i hi (by rw[getD_at e2];exact hs s hm);rwa [getD_at e2]at this
theorem mD:∀{l:List Bl},0<=fS l/\(l≠[]->1<=fS l)
 |[]=>⟨by simp[fS],λh=>absurd rfl h⟩
 |x::l=>by
  have G:=(mD (l:=l)).1;have O:=cy x.2;simp only[fS];exact⟨by omega,λ_=>by omega⟩
structure Np (pg:Nat)(m:Nat)(d:Nd)(Q:List Sl)(t:Nat):Prop where
 ok:d.ok
 pg:fS d.aca+Q.length=pg
 tt:jn m Q=t
 V:∀s∈Q,s.V=0
theorem Ja {d:Nd}(eH:d.ok)(h:fit 0 d.aca=none):d.aca=[]:=by
 rw[xj]at h;cases hF:d.aca with
 |nil=>rfl
 |cons x l =>
  have G:=h x (by rw[hF];exact bh ..);have O:=(eH.2.2.oF x (by rw[hF];exact bh ..)).1;omega
def pF (f:Int->Nat):Nat->Nat
 |0=>0
 |n+1=>pF f n+f n
theorem rN (f g:Int->Nat):∀n,pF (λp=>f p+g p) n=pF f n+pF g n
 |0=>rfl
 |n+1=>by simp only[pF,rN f g n];omega
theorem uq:∀n,pF (λ_=>0) n=0
 |0=>rfl
 |n+1=>by simp only[pF,uq n]
theorem C_ (x:Bl)(h0:0<=x.1):∀n:Nat,(pF (λp=>sy p x) n:Int)=(if(n:Int)<=x.1 then 0 else if(n:Int)<=x.1+pw x.2 then(n:Int)-x.1 else pw x.2)
 |0=>by
  have:=cy x.2;simp only[pF];rw[af (by omega)];rfl
 |n+1=>by
  have h:=C_ x h0 n;have hp:=cy x.2;simp only[pF];by_cases hi:x.1<=(n:Int)/\(n:Int)<x.1+pw x.2
  ·have e:sy (n:Int) x=1:=qz.2 hi;rw[e];rw[ai (by omega),af (by omega)];by_cases G:(n:Int)<=x.1
   ·rw[af G]at h;omega
   ·rw[ai G,af (by omega)]at h;omega
  ·have e:sy (n:Int) x=0:=by unfold sy;rw[ai hi]
   rw[e];by_cases G:(n:Int)<=x.1
   ·rw[af G]at h;rw[af (by omega)];omega
   ·rw[ai G]at h;rw[ai (by omega)];by_cases O:(n:Int)<=x.1+pw x.2
    ·rw[af O]at h;rw[ai (by omega)];omega
    ·rw[ai O]at h;rw[ai (by omega)];omega
theorem vK (N:Nat):∀l:List Bl,(∀x∈l,0<=x.1/\x.1+pw x.2<=N)->(pF (λp=>cnt p l) N:Int)=fS l
 |[],_=>by simp only[cnt,uq,fS];rfl
 |x::l,h=>by
  have G:=vK N l (λy hy=>h y (aD _ hy));have O:=h x (bh ..);have h3:=C_ x O.1 N;have hp:=cy x.2;simp only[cnt,rN,fS];rw[ai (by omega)]at h3;push_cast;rw[G,h3];split<;>omega
theorem Da (N:Nat):∀n:Nat,n<=N->pF (λp=>ind N p) n=n
 |0,_=>rfl
 |n+1,h=>by
  have G:=Da N n (by omega);have e:ind (N:Int) (n:Int)=1:=uS.2 (by omega);simp only[pF];rw[G,e]
theorem Nr {T:List Bl}(h:Inv N aca T)(h0:0<=N):fS aca+fS T=N:=by
 obtain⟨n,rfl⟩:=bw h0;have G:=vK n aca (λx hx=>h.Ov hx);have O:=vK n T (λx hx=>h.inT hx);have h3:=Da n n (ζ _);have e:(λp=>ind (n:Int) p)=λp=>cnt p aca+cnt p T:=by
  funext p;exact(h.one p).symm
 rw[e,rN]at h3;omega
theorem Ns {P:Nat->Int}{i:Nat}(G:1<=P i)(O:P i<=256):fS (kR P i).aca=P i:=by
 have h:=Nr (vA G O).2.2 (by show(0:Int)<=P i;omega);have e:fS (kR P i).T=0:=rfl;have e2:(kR P i).N=P i:=rfl;rw[e,e2]at h;omega
theorem Sd {N0:Nat}{c:Nat}{ly:Nat×Obj}{sz:Int}{k:Nat}{fm F:Nat->Nat}{w0:World}(hD:DZ w0 z mn lw hi k nb fm F V fr)(J:Below w0.heap.size w0 w)(hl:w0.heap.size<=ly.1)(hC:DC N0 w c z (ly.1,ly.2,λ_=>none) sz m [] [])(hf:∀i,i<k->N0<=fm i/\N0<=F i)(D:k<=20):PS N0 w c z (ly.1,ly.2,λ_=>none) sz m [] [] mn lw hi k nb fm F V fr :=
 ⟨hD.b J,hC,λs hs=>(by cases hs),hf,D,λi hi j E=>by
  rcases E with E|⟨o,ho⟩
  ·have hj':j=ly.1:=E;exact⟨λe=>by have:=(hD.bd i hi).f.lt;omega,λe=>by have:=(hD.bd i hi).t.lt;omega⟩
  ·cases ho⟩
theorem Dj {b:Nat}{v:Value}{L:List Bl}(h:RL w b v L)(hs:eh [291] w w')(hz:w.heap.size<=w'.heap.size):RL w' b v L:=by
 rcases h with h|⟨g,c,hv,h0,G,O,h3,hr⟩
 ·exact ε h
 ·have J:=hs g 291 (by simp) hr.tg;refine δ ⟨g,c,hv,h0,G,O,h3,⟨⟨λi hi=>?_,λo ho=>?_,ι hr.lt hz⟩,hr.tg.blk J⟩⟩
  ·exact⟨(η (w:=w) (a:=⟨g,i*2,none⟩) J).trans (hr.c i hi).1,(η (w:=w) (a:=⟨g,i*2+1,none⟩) J).trans (hr.c i hi).2⟩
  ·exact(π (w:=w) (a:=⟨g,o,none⟩) J).trans (hr.fz o ho)
theorem oo {b:Nat}{T:List Bl}(h:RB w b N aca T)(hs:eh [291] w w')(J:w'.heap[b]?=w.heap[b]?)(hz:w.heap.size<=w'.heap.size):RB w' b N aca T:=by
 obtain⟨v1,e1,l1⟩:=h.c1;obtain⟨v2,e2,l2⟩:=h.c2;have fr:∀o,w'.frozen? ⟨b,o,none⟩=w.frozen? ⟨b,o,none⟩:=λo=>π (w:=w) (a:=⟨b,o,none⟩) J;have cl:∀o,w'.cell? ⟨b,o,none⟩=w.cell? ⟨b,o,none⟩:=λo=>η (w:=w) (a:=⟨b,o,none⟩) J;exact⟨(cl 0).trans h.c0,⟨v1,(cl 1).trans e1,Dj l1 hs hz⟩,⟨v2,(cl 2).trans e2,Dj l2 hs hz⟩,(fr 1).trans h.f1,(fr 2).trans h.f2,ι h.lt hz,h.tg.blk J⟩
theorem vO {k:Nat}(h:RZ w z mn lw hi k nb V fr)(hs:eh [252,253,38,3,333,291] w w')(hz:w.heap.size<=w'.heap.size):RZ w' z mn lw hi k nb V fr:=by
 have cl:=λj=>bN hs (by simp) h.tg j;obtain⟨g,c,e1,o1⟩:=h.cn;obtain⟨g2,c2,rows,e2,o2,r2⟩:=h.cf;have GC:eh [291] w w':=λb t hm ht=>hs b t (by simp at hm;simp[hm]) ht;refine⟨(cl 2).trans h.m2,(cl 3).trans h.m3,(cl 4).trans h.m4,⟨g,c,(cl 5).trans e1,bK o1 hs (by simp)⟩,⟨g2,c2,rows,(cl 6).trans e2,bK o2 hs (by simp),λi hi=>?_⟩,cY hs (by simp) h.tg,λi hi=>oo (h.rb i hi) GC (hs _ 333 (by simp) (h.rb i hi).tg) hz,h.ok,h.ne⟩;obtain⟨h',d,e3,o3⟩:=r2 i hi;exact⟨h',d,e3,bK o3 hs (by simp)⟩
structure RR (N0:Nat)(w:World)(c z:Nat)(sz:Int)(m:Nat)(bs ts:List Nat)(Q:List Sl)(mn lw hi:Int)(k:Nat)(nb:Nat->Nat)(V:Nat->Nd)(fr:Nat->List Nat):Prop where
 hz:RZ w z mn lw hi k nb V fr
 K:RC N0 w c z sz m bs ts Q
 g:∀i,i<k->N0<=nb i
 r:∀g cp,w.cell? ⟨z,5,none⟩=some (.slice (some ⟨g,0,none⟩) k cp)->N0<=g
abbrev R4:List (Option TypeId):=[some 333,some 253,some 140,some 302,some 4]
section
variable {N0:Nat}{w w':World}{c z:Nat}{sz:Int}{m:Nat}{bs ts:List Nat}{Q:List Sl}{mn lw hi:Int}{k:Nat}{nb:Nat->Nat}{V:Nat->Nd}{fr:Nat->List Nat}
theorem RR.b (h:RR N0 w c z sz m bs ts Q mn lw hi k nb V fr)(J:Below w.heap.size w w'):RR N0 w' c z sz m bs ts Q mn lw hi k nb V fr :=
 ⟨h.hz.b J,h.K.b J,h.g,λg cp K=>h.r g cp ((J.cell (p:=⟨z,5,none⟩) h.hz.tg.lt).symm.trans K)⟩
theorem RR.n_ (h:RR N0 w c z sz m bs ts Q mn lw hi k nb V fr){tl:List (Option TypeId)}{N:Nat}(K:bD tl N w w')(hn:∀t∈([252,253,38,3,333,291,140,302,305,4]:List TypeId),some t∉tl):RR N0 w' c z sz m bs ts Q mn lw hi k nb V fr :=
 ⟨vO h.hz (K.ep (λt ht=>hn t ((by decide:∀t∈([252,253,38,3,333,291]:List TypeId),t∈([252,253,38,3,333,291,140,302,305,4]:List TypeId)) t ht))) K.size,h.K.same (K.ep (λt ht=>hn t ((by decide:∀t∈([140,302,305,4]:List TypeId),t∈([252,253,38,3,333,291,140,302,305,4]:List TypeId)) t ht))),h.g,λg cp e=>h.r g cp ((η (w:=w) (a:=⟨z,5,none⟩) (K.same h.hz.tg (hn 252 (by simp)))).symm.trans e)⟩
theorem RR.rT (h:RR N0 w c z sz m bs ts Q mn lw hi k nb V fr){pD sr:List Nat}{nu:List Sl}(K:bD [some 140,some 302,some 4] N0 w w')(hC:RC N0 w' c z sz m pD sr nu):RR N0 w' c z sz m pD sr nu mn lw hi k nb V fr :=
 ⟨vO h.hz (K.ep (by decide)) K.size,hC,h.g,λg cp e=>h.r g cp ((η (w:=w) (a:=⟨z,5,none⟩) (K.same h.hz.tg (by decide))).symm.trans e)⟩
theorem RC.NC (h:RC N0 w c z sz m bs ts Q)(J:Below w.heap.size w w'){pD sr:List Nat}{nu:List Sl}{v:Value}{n:Nat}(hv:∃p d,v=.slice p n d)(hn:n=pD.length)(ho:w'.ownsRow w.heap.size 302 1 v n (dS pD))(hN:N0<=w.heap.size)(hl:pD.length=nu.length)(hlt:sr.length=nu.length)(EM:sr.Nodup)(Qz:∀t∈sr,N0<=t)(YN:∀(i b t:Nat) (s:Sl),pD[i]?=some b->sr[i]?=some t->nu[i]?=some s->Jp w' b t m s):RC N0 (w'.setCell ⟨c,2,none⟩ v) c z sz m pD sr nu/\bD [some 140] N0 w (w'.setCell ⟨c,2,none⟩ v):=by
 obtain⟨p,d,rfl⟩:=hv;subst hn;have h':=h.b J;have ht:=h'.tg;have K:bD [some 140] N0 w' (w'.setCell ⟨c,2,none⟩ (.slice p pD.length d)):=bD.set ht h'.ge 2 _;have hsm:eh [302,305,4] w' (w'.setCell ⟨c,2,none⟩ (.slice p pD.length d)):=K.ep (by decide);have ry:w'.ownsRow N0 302 1 (.slice p pD.length d) pD.length (dS pD):=by
  refine⟨ho.1,?_⟩;rcases ho.2 with O|⟨g,cap,cur,G,O,h3⟩
  ·exact ε O
  ·exact δ ⟨g,cap,cur,G,σ hN O,h3⟩
 obtain⟨p0,d0,e2,_⟩:=h'.c2;refine⟨⟨(bu (by simp)).trans h'.c0,(bu (by simp)).trans h'.c1,⟨p,d,fK e2,bK ry hsm (by simp)⟩,ht.set _ _,h'.ge,hl,hlt,EM,Qz,λi b t s e1 e2 e3=>?_,λo=>by rw[Ψ];exact h'.cf o⟩,(bD.below J).trans K⟩;have hS:=YN i b t s e1 e2 e3;exact hS.same (hsm b 305 (by simp) hS.tg) (hsm t 4 (by simp) hS.tt)
end
variable {sz:Int}{s:Sl}{o:Bl}{g i m n:Nat}{Q:List Sl}{w:World}
theorem vS :∀{j:Nat},o∈py sz s j->∃i,i<j/\s.bm.testBit i=true/\o=((s.V:Int),s.at_*64+i*sz)
 |0,h=>by simp[py]at h
 |j+1,h=>by
  rw[py]at h;split at h
  ·rename_i J;rcases aC.mp h with h'|h'
   ·obtain⟨i,G,O⟩:=vS h';exact⟨i,by omega,O⟩
   ·exact⟨j,by omega,J,aw.mp h'⟩
  ·obtain⟨i,G,O⟩:=vS h;exact⟨i,by omega,O⟩
theorem Bg (J:s.bm.testBit i=true):∀{j:Nat},i<j->((s.V:Int),s.at_*64+i*sz)∈py sz s j
 |0,h=>by omega
 |j+1,h=>by
  rw[py];rcases bC i j with h'|h'
  ·split
   ·exact ee _ (Bg J h')
   ·exact Bg J h'
  ·obtain rfl:i=j:=by omega
   rw[af J];simp
theorem Dm :∀{n:Nat},n<=Q.length->o∈oI m sz Q n->∃k s i,k<n/\Q[k]?=some s/\i<m/\s.bm.testBit i=true/\o=((s.V:Int),s.at_*64+i*sz)
 |0,_,h=>by simp[oI]at h
 |n+1,hn,h=>by
  rw[oI]at h;rcases aC.mp h with h'|h'
  ·obtain⟨k,s,i,G,O⟩:=Dm (by omega) h';exact⟨k,s,i,by omega,O⟩
  ·obtain⟨i,G,O,h3⟩:=vS h';have e:Q[n]?=some (Q[n]):=ξ (by omega);rw[getD_at e]at O h3;exact⟨n,_,i,by omega,e,G,O,h3⟩
theorem Jt {k:Nat}(D:Q[k]?=some s)(hi:i<m)(J:s.bm.testBit i=true):∀{n:Nat},k<n->((s.V:Int),s.at_*64+i*sz)∈oI m sz Q n
 |0,h=>by omega
 |n+1,h=>by
  rw[oI];rcases bC k n with h'|h'
  ·exact ee _ (Jt D hi J h')
  ·obtain rfl:k=n:=by omega
   rw[getD_at D];exact cX _ (Bg J hi)
theorem Ju (hn:n<=Q.length)(ho:o∈oI m sz Q n):∃k i,kz m sz Q o k i:=by
 obtain⟨k,s,i,G,O,h3,h4,rfl⟩:=Dm hn ho;exact⟨k,i,s,O,h3,h4,rfl,rfl⟩
theorem NI:(prog.info? 302).map (λi=>(i.zero,i.size,i.bytes))=some (some (.pointer none),1,8):=by kernel_rfl
theorem ju (bs:List Nat):∀v∈dS bs,v.oneCell'=true:=λv hv=>by
 obtain⟨b,_,rfl⟩:=eV.mp hv;rfl
theorem yG (bs:List Nat):(dS bs).length=bs.length:=eT ..
theorem yH {a:Nat}{bs cs:List Nat}(hr:∀i b,bs[i]?=some b->w.cell? ⟨g,i,none⟩=some (ptr b))(K:∀j b,cs[j]?=some b->bs[a+j]?=some b):∀j u,(dS cs)[j]?=some u->w.cell? ((⟨g,a,none⟩:Addr).add j)=some u:=λj u h=>by
 rw[eZ];simp only[dS,dy,dr]at h;obtain⟨b,G,rfl⟩:=h;exact hr _ _ (K j b G)
theorem rW {w':World}{a:Nat}{cs:List Value}(hg:g<w.heap.size)(J:Below w.heap.size w w')(h:∀j u,cs[j]?=some u->w.cell? ((⟨g,a,none⟩:Addr).add j)=some u):∀j u,cs[j]?=some u->w'.cell? ((⟨g,a,none⟩:Addr).add j)=some u:=λj u hu=>by
 have:=h j u hu;rw[eZ]at this ⊢;exact(J.cell (p:=⟨g,a+j,none⟩) hg).trans this
theorem cM {b e size:Nat}{v:Value}{xs:List Value}(h:w.ownsRow b e size v n xs):∃p d,v=.slice p n d:=by
 rcases h.2 with⟨rfl,rfl⟩|⟨g,cap,cur,e,_⟩
 ·exact⟨none,0,rfl⟩
 ·exact⟨_,_,e⟩
theorem JL {l:List Nat}(h:l.Nodup){j a:Nat}(hi:l[i]?=some a)(E:l[j]?=some a):i=j:=by
 obtain⟨G,e1⟩:=ν.mp hi;obtain⟨O,e2⟩:=ν.mp E;have hp:=cO.mp h;rcases eX i j with q|q|q
 ·exact absurd (e1.trans e2.symm) (hp i j G O q)
 ·exact q
 ·exact absurd (e2.trans e1.symm) (hp j i O G q)
section
variable {N0:Nat}{w:World}{c z:Nat}{sz:Int}{m:Nat}{bs ts:List Nat}{Q:List Sl}
theorem RC.turn (h:RC N0 w c z sz m bs ts Q){i b t:Nat}{s:Sl}(eb:bs[i]?=some b)(et:ts[i]?=some t)(es:Q[i]?=some s){k:Nat}(x:Nat)(v:Bool)(D:k<m)(G:x.testBit k=v)(O:∀j,j≠k->x.testBit j=s.bm.testBit j):RC N0 (w.setCell ⟨t,k,none⟩ (.bool v)) c z sz m bs ts (Q.set i {s with bm:=x})/\bD [some 4] N0 w (w.setCell ⟨t,k,none⟩ (.bool v)):=by
 have hS:=h.sl i b t s eb et es;have K:bD [some 4] N0 w (w.setCell ⟨t,k,none⟩ (.bool v)):=bD.set hS.tt (h.gt t (aH et)) k _;have hsm:eh [140,302,305] w (w.setCell ⟨t,k,none⟩ (.bool v)):=K.ep (by decide);obtain⟨p,d,e2,o2⟩:=h.c2;have eR:=λj=>bN hsm (by simp) h.tg j;have hi:i<Q.length:=(ν.mp es).1;refine⟨⟨(eR 0).trans h.c0,(eR 1).trans h.c1,⟨p,d,(eR 2).trans e2,bK o2 hsm (by simp)⟩,cY hsm (by simp) h.tg,h.ge,by rw[dp];exact h.len,by rw[dp];exact h.lt,h.tn,h.gt,λj b' t' s' e1 e3 e4=>?_,λo=>(π (w:=w) (a:=⟨c,o,none⟩) (hsm c 140 (by simp) h.tg)).trans (h.cf o)⟩,K⟩;by_cases e:j=i
 ·subst e;rw[aP hi]at e4;rw[eb]at e1;rw[et]at e3;cases e1;cases e3;cases e4
  have J:=hsm b 305 (by simp) hS.tg;refine⟨(η (w:=w) (a:=⟨b,0,none⟩) J).trans hS.c0,(η (w:=w) (a:=⟨b,1,none⟩) J).trans hS.c1,(η (w:=w) (a:=⟨b,2,none⟩) J).trans hS.c2,(η (w:=w) (a:=⟨b,3,none⟩) J).trans hS.c3,λq hq=>?_,hS.tg.blk J,hS.tt.set _ _,λo=>by rw[Ψ];exact hS.fz o⟩;by_cases hqk:q=k
  ·subst hqk;rw[fK (hS.row q hq),G]
  ·have hne:(⟨t,k,none⟩:Addr)≠⟨t,q,none⟩:=λe=>hqk (by cases e;rfl);rw[bu hne,hS.row q hq,O q hqk]
 ·rw[cL (cV e)]at e4;have h3:=h.sl j b' t' s' e1 e3 e4;have hne:t'≠t:=λe2=>by
   subst e2;exact e (JL h.tn e3 et)
  exact h3.same (hsm b' 305 (by simp) h3.tg) (μ _ _ _ _ hne)
end
end Sb
namespace Dz
open Fr Bd Zn
theorem Cf.Xr (c:Cf):∃i:Int,c.is i:=by
 by_cases G:c.j7
 ·exact⟨2,ε ⟨rfl,G⟩⟩
 ·by_cases O:c.wJ
  ·by_cases h3:c.lL
   ·exact⟨3,δ (ε ⟨rfl,G,δ h3⟩)⟩
   ·exact⟨0,δ (δ ⟨rfl,G,O,h3⟩)⟩
  ·exact⟨3,δ (ε ⟨rfl,G,ε O⟩)⟩
theorem Cf.zero {c:Cf}(hi:c.is 0):1<=c.n/\c.n<=4/\(∀i,i<c.n->1<=c.P i/\c.P i<=256)/\c.m=c.n/\(∀i,i<c.m->c.M i=c.n)/\(∀i,i<c.n->∀k,k<c.n->0<=c.ab8 i k/\c.ab8 i k<=1000)/\0<=c.mn/\c.mn<=c.lw/\c.lw<=c.hi:=by
 obtain⟨hb2,EC,_⟩:¬c.j7/\c.wJ/\¬c.lL:=by
  rcases hi with⟨h,_⟩|⟨h,_⟩|⟨_,h⟩
  ·exact absurd h (by decide)
  ·exact absurd h (by decide)
  ·exact h
 have hM:∀i,i<c.m->c.M i=c.n:=EC.2;have hm:c.m=c.n:=EC.1;refine⟨bE λhh=>hb2 (ε (by omega)),bE λhh=>hb2 (δ (ε (by omega))),λi hi=>⟨eu.1 λhh=>hb2 (δ (δ (ε ⟨i,hi,ε hh⟩))),eu.1 λhh=>hb2 (δ (δ (ε ⟨i,hi,δ hh⟩)))⟩,hm,hM,λi hi k D=>⟨eu.1 λhh=>hb2 (δ (δ (δ (ε ⟨i,by omega,k,by rw[hM i (by omega)];exact D,ε hh⟩)))),eu.1 λhh=>hb2 (δ (δ (δ (ε ⟨i,by omega,k,by rw[hM i (by omega)];exact D,δ hh⟩))))⟩,?_⟩;unfold Cf.j7 at hb2;simp only[not_or]at hb2;omega
end Dz
end Go.Proofs.YtcbmfakjfoggaaaGreatDoor
