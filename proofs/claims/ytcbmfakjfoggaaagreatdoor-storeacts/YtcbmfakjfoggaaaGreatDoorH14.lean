/- H14 -/
import Derived.Test.YtcbmfakjfoggaaaGreatDoorA0
import Derived.Test.YtcbmfakjfoggaaaGreatDoorH11
set_option maxHeartbeats 0
set_option maxRecDepth 100000
namespace Go.Proofs.YtcbmfakjfoggaaaGreatDoor
open Go.Maps _root_.Go.Proofs.Tryz Go.RowKit Go.Sort Go.Shelf Go.Lib
namespace Dz
open Fr Bd Zn
def Hz:Go.Shelf.Ren:=⟨fun|20=>279|n=>n,fun|0=>0|3=>3|4=>4|22=>38|24=>3|25=>198|44=>406|n=>n,fun|n=>n⟩
theorem aaq:Go.Proofs.SlLaysF.n20 prog Hz:={
 mixed:=by kernel_rfl
 f20:=⟨Tryz.f279.name,by decide,func279.trans (ba some (by kernel_rfl))⟩
 t0:=underlying0
 a0:=Tryz.isAgg0
 z0:=Tryz.sizeOf0
 v0:=Tryz.zeroValue0
 t3:=underlying3
 a3:=Tryz.isAgg3
 z3:=Tryz.sizeOf3
 v3:=Tryz.zeroValue3
 t4:=underlying4
 a4:=Tryz.isAgg4
 z4:=Tryz.sizeOf4
 v4:=Tryz.zeroValue4
 t22:=underlying38
 a22:=Tryz.isAgg38
 z22:=Tryz.sizeOf38
 v22:=Tryz.zeroValue38
 a24:=Tryz.isAgg3
 z24:=Tryz.sizeOf3
 t25:=underlying198
 a25:=Tryz.isAgg198
 z25:=Tryz.sizeOf198
 v25:=Tryz.zeroValue198}
def Lx (ab8:Nat->Int)(i j:Nat):Prop:=ab8 i<ab8 j\/(ab8 i=ab8 j/\i<j)
theorem CB {ab8:Nat->Int}:∀{l m:List Nat},l.Pairwise (Lx ab8)->m.Pairwise (Lx ab8)->(∀x,x∈l↔x∈m)->l=m
 |[],[],_,_,_=>rfl
 |[],y::m,_,_,h=>absurd ((h y).2 (bh ..)) (by simp)
 |x::l,[],_,_,h=>absurd ((h x).1 (bh ..)) (by simp)
 |x::l,y::m,hl,hm,h=>by
  rw[List.pairwise_cons]at hl hm;have e:x=y:=by
   rcases ae.1 ((h x).1 (bh ..))with e|hx
   ·exact e
   ·rcases ae.1 ((h y).2 (bh ..))with e|hy
    ·exact e.symm
    ·have G:=hl.1 y hy;have O:=hm.1 x hx;unfold Lx at G O;omega
  subst e;have irr:∀z,¬Lx ab8 z z:=λz hz=>by unfold Lx at hz;omega
  rw[CB hl.2 hm.2 (λz=>?_)];constructor
  ·intro hz;rcases ae.1 ((h z).1 (aD _ hz))with e|h'
   ·subst e;exact absurd (hl.1 z hz) (irr z)
   ·exact h'
  ·intro hz;rcases ae.1 ((h z).2 (aD _ hz))with e|h'
   ·subst e;exact absurd (hm.1 z hz) (irr z)
   ·exact h'
section
variable {α : Type}[Inhabited α]
def Good (ab8:Nat->Int)(v : α->Nat)(n:Nat)(d:Array α):Prop:=(d.toList.map v).Pairwise (Lx ab8)/\∀i,i∈d.toList.map v↔i<n
theorem Vm (ab8:Nat->Int)(v : α->Nat)(a : α)(ha:v a=0):Good ab8 v 1 (insertionSort (λx y=>decide (ab8 (v x)<ab8 (v y))) #[a] 0 1):=by
 unfold insertionSort Good;rw[insOuter,ai (by omega)];simp[ha]
theorem Vn (ab8:Nat->Int)(v : α->Nat)(a b : α)(ha:v a=0)(J:v b=1):Good ab8 v 2 (insertionSort (λx y=>decide (ab8 (v x)<ab8 (v y))) #[a,b] 0 2):=by
 unfold insertionSort Good;rw[insOuter,af (by omega),insOuter,ai (by omega)];by_cases h:ab8 1<ab8 0<;>(simp[insInner,swp,h,ha,J,Lx];first|omega|exact⟨by omega,λi=>by omega⟩|(intro i;omega))
theorem Vo (ab8:Nat->Int)(v : α->Nat)(a b c : α)(ha:v a=0)(J:v b=1)(K:v c=2):Good ab8 v 3 (insertionSort (λx y=>decide (ab8 (v x)<ab8 (v y))) #[a,b,c] 0 3):=by
 unfold insertionSort Good;rw[insOuter,af (by omega),insOuter,af (by omega),insOuter,ai (by omega)];by_cases h:ab8 1<ab8 0<;>by_cases O:ab8 2<ab8 0<;>by_cases h3:ab8 2<ab8 1<;>(simp[insInner,swp,h,O,h3,ha,J,K,Lx];first|omega|exact⟨by omega,λi=>by omega⟩|(intro i;omega))
theorem Vp (ab8:Nat->Int)(v : α->Nat)(a b c e : α)(ha:v a=0)(J:v b=1)(K:v c=2)(he:v e=3):Good ab8 v 4 (insertionSort (λx y=>decide (ab8 (v x)<ab8 (v y))) #[a,b,c,e] 0 4):=by
 unfold insertionSort Good;rw[insOuter,af (by omega),insOuter,af (by omega),insOuter,af (by omega),insOuter,ai (by omega)];by_cases h:ab8 1<ab8 0<;>by_cases O:ab8 2<ab8 0<;>by_cases h3:ab8 2<ab8 1<;>by_cases h4:ab8 3<ab8 0<;>by_cases h5:ab8 3<ab8 1<;>by_cases h6:ab8 3<ab8 2<;>(simp[insInner,swp,h,O,h3,h4,h5,h6,ha,J,K,he,Lx];first|omega|exact⟨by omega,λi=>by omega⟩|(intro i;omega))
end
variable {g m n:Nat}{w:World}
theorem nX (r:Nat->Int)(n:Nat):∀f x,x∈iC r n f↔x<n/\0<=r x/\r x<f
 |0,x=>by simp[iC]
 |f+1,x=>by
  have h:=nX r n f x;simp only[iC,aC,fO,fw,dh,h];omega
theorem Ap (r:Nat->Int)(n:Nat):∀f,(iC r n f).Pairwise (Lx r)
 |0=>List.Pairwise.nil
 |f+1=>by
  unfold iC;rw[List.pairwise_append];refine⟨Ap r n f,?_,λx hx y hy=>?_⟩
  ·have h:(List.range n).Pairwise (· < ·):=List.pairwise_lt_range;refine(h.filter _).imp_of_mem (fun {x y} hx hy jl=>?_);simp at hx hy;unfold Lx;omega
  ·rw[nX]at hx;simp at hy;unfold Lx;omega
theorem H_ {r:Nat->Int}{l:List Nat}(J:∀i,i<n->0<=r i/\r i<=1000)(G:l.Pairwise (Lx r))(O:∀i,i∈l↔i<n):l=iC r n 1001 :=
 CB G (Ap r n 1001) (λx=>by rw[O,nX];constructor;(intro h;have:=J x h;omega);(intro h;exact h.1))
theorem rq {ab8:Nat->Int}(J:∀i,i<n->0<=ab8 i/\ab8 i<=1000):(iC ab8 n 1001).length=n/\∀i∈iC ab8 n 1001,i<n:=by
 have G:(iC ab8 n 1001).Perm (List.range n):=by
  rw[List.perm_ext_iff_of_nodup]
  ·intro x;rw[nX,fw];constructor
   ·intro h;exact h.1
   ·intro h;have:=J x h;omega
  ·exact(Ap ab8 n 1001).imp (fun {x y} h e=>by subst e;unfold Lx at h;omega)
  ·exact List.nodup_range
 exact⟨by rw[G.length_eq,List.length_range],λi hi=>((nX ab8 n 1001 i).1 hi).1⟩
def Aq {k:Nat}(x:Fin (k+1)):Value:=.int .i64 ((x.val:Nat):Int)
theorem qD {k:Nat}(ab8:Nat->Int):ltOf (λ(x y:Fin (k+1))=>jf (ab8 x.val) (ab8 y.val))=λx y=>decide (ab8 x.val<ab8 y.val):=by
 funext x y;unfold ltOf jf;by_cases G:ab8 x.val<ab8 y.val
 ·simp[G]
 ·by_cases O:ab8 y.val<ab8 x.val<;>simp[G,O]
theorem xB (ab8:Nat->Int):∀(k:Nat),k<=3->Good ab8 (λx:Fin (k+1)=>x.val) (k+1) (insertionSort (ltOf (λ(x y:Fin (k+1))=>jf (ab8 x.val) (ab8 y.val))) (Array.ofFn (λx:Fin (k+1)=>x)) 0 (k+1))
 |0,_=>by rw[qD];exact Vm ab8 _ _ rfl
 |1,_=>by rw[qD];exact Vn ab8 _ _ _ rfl rfl
 |2,_=>by rw[qD];exact Vo ab8 _ _ _ _ rfl rfl rfl
 |3,_=>by rw[qD];exact Vp ab8 _ _ _ _ _ rfl rfl rfl rfl
theorem Mq {α : Type}[Inhabited α]{enc : α->Value}{os:Array Obj}{cur:Array Value}{e:TypeId}{fr:Nat×Nat}(d:Array α)(J:w.heap[g]?=some (.cells cur e fr)):
  (sortWorld enc w g 0 m d os).heap[g]?=some (.cells (putCells enc 0 d cur) e fr):=by
 have hg:g<w.heap.size:=(Array.getElem?_eq_some_iff.1 J).1;unfold sortWorld;rw[heap_grow_old _ _ (by simpa using hg)];simp[putRow,mapBlock,Sort.ahead,Array.getElem?_modify,J,onCells]
theorem CC {α : Type}[Inhabited α]{enc : α->Value}{os:Array Obj}(d:Array α):Kept g g w (sortWorld enc w g 0 m d os):=by
 unfold sortWorld;refine⟨rfl,rfl,rfl,by simp,λk D hne _=>?_⟩;rw[heap_grow_old _ _ (by simpa using D)];simp[putRow,mapBlock,Sort.ahead,Array.getElem?_modify,Ne.symm hne]
theorem Ia {α : Type}[Inhabited α](enc : α->Value)(cur:Array Value)(d:Array α)(h:d.size<=cur.size):(putCells enc 0 d cur).toList.take d.size=d.toList.map enc:=by
 apply dN;intro j;by_cases E:j<d.size
 ·rw[gQ E,Array.getElem?_toList];simp[putCells,E,show j<cur.size by omega]
 ·rw[List.getElem?_take_eq_none (by omega),eQ (by simp;omega)]
theorem Ib {α : Type}[Inhabited α]{enc : α->Value}{w':World}{B cap:Nat}{xs:List Value}{d:Array α}(h:SW enc w g 0 d w')(hrow:w.ownsRow B 3 1 (.slice (some ⟨g,0,none⟩) n cap) n xs)(hd:d.size=n):
  w'.ownsRow B 3 1 (.slice (some ⟨g,0,none⟩) n cap) n (d.toList.map enc)/\Kept g g w w':=by
 obtain⟨m,os,rfl⟩:=h;refine⟨?_,CC d⟩;rcases hrow.2 with⟨h0,_⟩|⟨g',cap',cur,hv,J,hg,hle,gB,hcs,_⟩
 ·cases h0
 simp only[ψ,τ,av,bI,aZ]at hv;obtain⟨rfl,rfl⟩:=hv;subst hd;refine⟨by simp,δ ⟨g,cap,_,rfl,J,Mq d hg,hle,gB,by simp[putCells,hcs],?_⟩⟩;rw[gq];exact Ia enc cur d (by omega)
def Ic (w:World)(B:Nat)(p:Option Addr)(n:Nat)(z:Nat->Int):Prop:=∀i,i<n->∃blk off,p=some ⟨blk,off,none⟩/\blk<B/\w.cell? ⟨blk,off+i,none⟩=some (.int .i64 (z i))
theorem aar:∀args w,(callFunc 198 args).run prog w=.ok (.enter 198 args) w:=fy func198 (by kernel_rfl) rfl
theorem Ie (ab8:Nat->Int)(n c fb:Nat)(p:Option Addr)(i j:Nat)(w:World)(hi:i<n)(E:j<n)(hf:w.cell? ⟨fb,0,none⟩=some (.slice p n c))(hN:∃blk off,p=some ⟨blk,off,none⟩/\w.cell? ⟨blk,off+i,none⟩=some (.int .i64 (ab8 i))/\w.cell? ⟨blk,off+j,none⟩=some (.int .i64 (ab8 j))):
  Calls prog 198 (#[.int .i64 i,.int .i64 j] ++ #[.pointer (some ⟨fb,0,none⟩)]) w λev w'=>ev=.returned (.int .i64 (jf (ab8 i) (ab8 j)))/\∃q,w'=w.drewN q:=by
 obtain⟨blk,off,rfl,c1,c2⟩:=hN;simp only[dQ,cJ,aT];generalize ab8 i=x at*;generalize ab8 j=y at*;have G:(i:Int)<n:=by omega
 have O:(j:Int)<n:=by omega
 have h3:(0:Int)<=i:=by omega
 have h4:(0:Int)<=j:=by omega
 have H:=λw=>I (mZ x y w);generalize jf x y=r at*;go_enter func198,ntmps198;go_wp2_with fail;go_quiet ((go_at_call 199;exact Calls.quiet_of_same (Z (H _))));go_wp2;go_ret;exact⟨rfl,_,rfl⟩
theorem vu {α : Type}[Inhabited α]{enc : α->Value}{os:Array Obj}{d:Array α}{a:Addr}{v:Value}(h:w.cell? a=some v)(hne:a.block≠g):(sortWorld enc w g 0 m d os).cell? a=some v:=by
 have hl:=aa w a h;exact((CC d).cell hl hne hne).trans h
theorem EG (ab8:Nat->Int)(k g cap fb c B:Nat)(p:Option Addr)(w:World)(D:k<=3)(hf:w.cell? ⟨fb,0,none⟩=some (.slice p (k+1) c))(qo:fb<B)(hN:Ic w B p (k+1) ab8)
  (hrow:w.ownsRow B 3 1 (.slice (some ⟨g,0,none⟩) (k+1) cap) (k+1) (dX (List.range (k+1))))(J:∀i,i<k+1->0<=ab8 i/\ab8 i<=1000):
  Calls prog 247 #[.slice (some ⟨g,0,none⟩) (k+1) cap,.int .i64 ((k+1:Nat):Int),.func (.func 198) #[] #[.pointer (some ⟨fb,0,none⟩)]] w λev w'=>ev=.returned (.tuple #[])/\w'.ownsRow B 3 1 (.slice (some ⟨g,0,none⟩) (k+1) cap) (k+1) (dX (iC ab8 (k+1) 1001))/\Kept g g w w':=by
 have hgB:=hrow.lt g rfl;have hH:Holds (Aq (k:=k)) w g 0 (Array.ofFn (λx:Fin (k+1)=>x)):=λj E=>by
  have hj':j<k+1:=by simpa using E
  refine⟨?_,hrow.frozenAt _⟩;rw[bj,hrow.cellAt j (by omega)];simp[dX,hj',Aq]
 have Ew:CmpLays1 prog 198 #[.pointer (some ⟨fb,0,none⟩)] (Aq (k:=k)) (λx y=>jf (ab8 x.val) (ab8 y.val)) g 0 (Array.ofFn (λx:Fin (k+1)=>x)).size w:=λm os dk _ x y=>by
  obtain⟨blk,off,e1,G,c1⟩:=hN x.val x.isLt;obtain⟨Ho,nS,e2,O,c2⟩:=hN y.val y.isLt;rw[e1]at e2;simp only[τ,av,bI]at e2;obtain⟨rfl,rfl⟩:=e2;refine(Ie ab8 (k+1) c fb p x.val y.val _ x.isLt y.isLt (vu hf (by simp only;omega)) ⟨blk,off,e1,vu c1 (by simp only;omega),vu c2 (by simp only;omega)⟩).mono ?_;rintro ev w'⟨rfl,q,rfl⟩;exact⟨rfl,q,#[],by rw[grow_empty]⟩
 have hR:Row1 (Aq (k:=k)) w g 0 (Array.ofFn (λx:Fin (k+1)=>x)):=⟨λ_=>rfl,hH,hgB.2⟩;have hcon:=Any.insertionSortCmpFunc_s aaq (Aq (k:=k)) (λx y=>jf (ab8 x.val) (ab8 y.val)) 198 #[.pointer (some ⟨fb,0,none⟩)] g 0 cap 0 (k+1) (Array.ofFn (λx:Fin (k+1)=>x)) (Array.ofFn (λx:Fin (k+1)=>x)) w w aar Ew hR rfl (SW.start hH) (Γ _) (by simp) (by simp;omega);have hsz:(Array.ofFn (λx:Fin (k+1)=>x)).size=k+1:=by simp
 rw[hsz,show((0:Nat):Int)=0 from rfl]at hcon;change Calls prog 279 _ _ _ at hcon;have Ig:=xB ab8 k D;generalize Ha:Sort.insertionSort (ltOf λx y=>jf (ab8 x.val) (ab8 y.val)) (Array.ofFn (λx:Fin (k+1)=>x)) 0 (k+1)=d at*;have hl:=H_ J Ig.1 Ig.2;have hdn:d.size=k+1:=by
  have:=ba List.length hl;rw[(rq J).1]at this;simpa using this
 have hiv:dX (iC ab8 (k+1) 1001)=d.toList.map (Aq (k:=k)):=by
  rw[<- hl];simp[dX,Aq,Function.comp_def]
 have HC:=I (hcon.mono (λev w' h=>show ev=.returned (.tuple #[])/\w'.ownsRow B 3 1 (.slice (some ⟨g,0,none⟩) (k+1) cap) (k+1) (dX (iC ab8 (k+1) 1001))/\Kept g g w w' from⟨h.1,by rw[hiv];exact(Ib h.2 hrow hdn).1,(Ib h.2 hrow hdn).2⟩));clear hcon Ew hR hH hl hdn hiv Ig Ha hrow hN hf;have d1:decide ((20:Int)<=((k+1:Nat):Int))=false:=by simp;omega
 have d2:decide ((20:Int)<((k+1:Nat):Int))=false:=by simp;omega
 generalize dX (iC ab8 (k+1) 1001)=xs at*;generalize k+1=n at*;go_enter func247,ntmps247;go_wp2_with fail;refine bO 1 ?_;rw[cW];go_wp2_with fail;refine(Z HC).mono ?_;rintro ev w'⟨rfl,G,O⟩;go_wp2_with fail;refine bO 1 ?_;rw[cW];go_wp2;go_end0;exact⟨rfl,G,O⟩
theorem EH (ab8:Nat->Int)(k g cap fb c B:Nat)(p:Option Addr)(w:World)(D:k<=3)(hf:w.cell? ⟨fb,0,none⟩=some (.slice p (k+1) c))(qo:fb<B)(hN:Ic w B p (k+1) ab8)
  (hrow:w.ownsRow B 3 1 (.slice (some ⟨g,0,none⟩) (k+1) cap) (k+1) (dX (List.range (k+1))))(J:∀i,i<k+1->0<=ab8 i/\ab8 i<=1000):
  Calls prog 197 #[.slice (some ⟨g,0,none⟩) (k+1) cap,.func (.func 198) #[] #[.pointer (some ⟨fb,0,none⟩)]] w λev w'=>ev=.returned (.tuple #[])/\w'.ownsRow B 3 1 (.slice (some ⟨g,0,none⟩) (k+1) cap) (k+1) (dX (iC ab8 (k+1) 1001))/\Kept g g w w':=by
 have H:=I (EG ab8 k g cap fb c B p w D hf qo hN hrow J);clear hf hN hrow J;generalize dX (iC ab8 (k+1) 1001)=xs at*;generalize k+1=n at*;go_enter func197,ntmps197;go_wp2_with fail;refine(Z H).mono ?_;rintro ev w'⟨rfl,G,O⟩;go_wp2_with fail;go_end0;exact⟨rfl,G,O⟩
theorem Ar (ab8:Nat->Int)(n c:Nat)(p:Option Addr)(w:World)(G:1<=n)(h4:n<=4)(hN:j4 w p n ab8)(J:∀i,i<n->0<=ab8 i/\ab8 i<=1000):
  Calls prog 144 #[.slice p n c] w λev w'=>∃g cap,ev=.returned (.slice (some ⟨g,0,none⟩) n cap)/\w'.ownsRow w.heap.size 3 1 (.slice (some ⟨g,0,none⟩) n cap) n (dX (iC ab8 n 1001))/\Below w.heap.size w w':=by
 have HS:=I (λW fb g cap B (h:W.cell? ⟨fb,0,none⟩=some (.slice p n c)) (O:fb<B) (h3:Ic W B p n ab8) (h5:W.ownsRow B 3 1 (.slice (some ⟨g,0,none⟩) n cap) n (dX (List.range n)))=>show Calls prog 197 #[.slice (some ⟨g,0,none⟩) n cap,.func (.func 198) #[] #[.pointer (some ⟨fb,0,none⟩)]] W λev w'=>ev=.returned (.tuple #[])/\w'.ownsRow B 3 1 (.slice (some ⟨g,0,none⟩) n cap) n (dX (iC ab8 n 1001))/\Kept g g W w' by
  obtain⟨k,rfl⟩:∃k,n=k+1:=⟨n-1,by omega⟩;exact EH ab8 k g cap fb c B p W (by omega) h O h3 h5 J)
 have hfb:=θ w #[.slice p n c] 38 0;have F1:=χ (γ w.heap.size w) (.cells #[.slice p n c] 38);have HN:Hid (j4 w p n ab8):=hN;obtain⟨i0,eO,hz0,hz1,hz2⟩:=aY info3;have HI:=I eO;have HZ:=I hz0;have eI:=I hz1;have eJ:=I hz2;have Vq:(w.alloc (.cells #[.slice p n c] 38)).heap.size=w.heap.size+1:=by simp
 clear J hN eO hz0 hz1 hz2;go_enter func144,ntmps144;go_wp2_with (at_make;refine wpList_make_full _ rfl _ _ 38 rfl (w.heap.size+1) 3 i0 (.int .i64 0) 1 underlying38 (Z HI) (Z HZ) (Z eI) .i64 .i64 _ _ n rfl rfl rfl rfl (by rw[Z eJ];omega) (by unfold maxLen;omega) (by simp) ?_;rw[Vq];intro w1 Q4 gr1);have F2:Below w.heap.size w w1:=F1.grown gr1 (by simp) (by simp);have Vr:w1.cell? ⟨w.heap.size,0,none⟩=some (.slice p n c):=((γ _ _|>.grown gr1 (ζ _) (λ_ h=>by cases h)).cell (p:=⟨w.heap.size,0,none⟩) (by simp)).trans hfb;clear hfb F1 gr1 Vq;have hlen:=Q4.1;generalize(madeCells (Value.int IntKind.i64 0).cells (n*1)).toList=xs0 at*;go_loopw [10] (λa wr=>∃(i:Nat) (xs:List Value),a=.int .i64 i/\i<=n/\Hid (xs.length=n)/\Hid (wr.ownsRow (w.heap.size+1) 3 1 (.slice (some ⟨w.heap.size+1,0,none⟩) n n) n xs)/\Hid (∀j:Nat,j<i->xs[j]?=some (.int .i64 (j:Int)))/\Hid (Below w.heap.size w wr)/\Hid (wr.cell? ⟨w.heap.size,0,none⟩=some (.slice p n c))) (λa _=>n-(intOf a).toNat)
 case atStart=>exact⟨0,xs0,rfl,Γ _,I (by simpa using hlen),Q4,λj E=>by omega,F2,Vr⟩
 case round =>
  clear Q4 F2 Vr hlen;obtain⟨i,xs,rfl,hi,hx,ho,hv,hB,K⟩:=hrel;have oG:(0:Int)<=i:=by omega
  by_cases eY:i<n
  ·have hlt:(i:Int)<n:=by omega
   have hcell:∃u,wr.cell? ⟨w.heap.size+1,i,none⟩=some u:=by
    rw[(Z ho).cellAt i (by omega)];exact⟨_,ξ (by rw[Z hx];exact eY)⟩
   obtain⟨u,hu⟩:=hcell;have hf:=(Z ho).frozenAt i;have ry:=I ((Z ho).stored i (.int .i64 (i:Int))).1;have hx2:Hid ((xs.set i (.int .i64 (i:Int))).length=n):=by show _=_;rw[dp];exact Z hx
   have hv2:Hid (∀j:Nat,j<i+1->(xs.set i (.int .i64 (i:Int)))[j]?=some (.int .i64 (j:Int))):=λj E=>by
    have mN:=Z hx;rw[List.getElem?_set];by_cases e:i=j
    ·subst e;simp;omega
    ·rw[ai e];exact(Z hv) j (by omega)
   have mS:=I ((Z hB).setCell (p:=⟨w.heap.size+1,i,none⟩) (by simp) (.int .i64 (i:Int)));have hc2:Hid ((wr.setCell ⟨w.heap.size+1,i,none⟩ (.int .i64 (i:Int))).cell? ⟨w.heap.size,0,none⟩=some (.slice p n c)):=(bu (by simp)).trans (Z K);clear ho hx hv hB K;go_wp2_with fail;go_roundw;case rel=>exact⟨i+1,_,by go_num,by omega,hx2,ry,hv2,mS,hc2⟩
   case measure=>simp[intOf];omega
  ·have nN:i=n:=by omega
   subst nN;have kn:¬(i:Int)<i:=by omega
   have Vs:xs=dX (List.range i):=by
    apply dN;intro j;by_cases E:j<i
    ·rw[(Z hv) j E];simp[dX,E]
    ·rw[eQ (by rw[Z hx];omega),eQ (by simp[dX];omega)]
   subst Vs;have HX:=I ((Z HS) wr w.heap.size (w.heap.size+1) i (w.heap.size+1) (Z K) (Nat.lt_succ_self _) (λj E=>by
    obtain⟨blk,off,e,hl,hcc⟩:=(Z HN) j E;exact⟨blk,off,e,by omega,((Z hB).cell (p:=⟨blk,off+j,none⟩) hl).trans hcc⟩) (Z ho))
   clear HS HN hv hx ho K;go_wp2_with fail;refine(Z HX).mono ?_;rintro ev w3⟨rfl,o3,k3⟩;have hs:=(Z hB).size;have hl3:=(o3.lt _ rfl);go_wp2_with fail;go_ret;exact⟨_,_,rfl,ia o3 (by omega),(Z hB).trans (k3.below (by omega) (by omega) hs)⟩
end Dz
end Go.Proofs.YtcbmfakjfoggaaaGreatDoor
