/- H13 -/
import Derived.Test.YtcbmfakjfoggaaaGreatDoorA0
import Derived.Test.YtcbmfakjfoggaaaGreatDoorH11
set_option maxHeartbeats 0
set_option maxRecDepth 100000
namespace Go.Proofs.YtcbmfakjfoggaaaGreatDoor
open Go.Maps _root_.Go.Proofs.Tryz Go.RowKit
namespace Zn
open Fr Bd
variable {w w':World}{N e n size:Nat}{z:Nat->Int}{v:Value}{ops:Array Oper}{o:Oper}{xs:List Value}{hi lw mn:Int}
theorem tR {p:Option Addr}(h:j4 w p n z)(hp:p=none):n=0:=by
 subst hp;rcases Nat.eq_zero_or_pos n with h0|h0
 ·exact h0
 ·obtain⟨b,o,hq,_⟩:=h 0 h0;cases hq
theorem qC {B:Nat}(h:w.ownsRow B 3 1 v n ((List.range n).map λk=>.int .i64 (z k))):∃p c,v=.slice p n c/\j4 w p n z/\(p=none->c=0):=by
 rcases h.2 with⟨rfl,h0⟩|⟨g,cap,cur,rfl,J,hg,hle,gB,hcs,hx⟩
 ·subst h0;exact⟨none,0,rfl,λi hi=>by omega,λ_=>rfl⟩
 ·refine⟨_,_,rfl,λi hi=>?_,λh=>by cases h⟩;have hlt:g<w.heap.size:=by
   rcases bC g w.heap.size with h'|h'
   ·exact h'
   ·rw[cx h']at hg;cases hg
  have:=h.cellAt i (by omega);refine⟨g,0,rfl,hlt,?_⟩;rw[bj,this];simp[hi]
def zs (n:Nat)(z:Nat->Int):List Value:=(List.range n).map λk=>.int .i64 (z k)
theorem Ht (n:Nat)(z:Nat->Int):(zs n z).length=n:=by simp[zs]
theorem Hu (n:Nat)(z:Nat->Int):∀u∈zs n z,u.oneCell'=true:=by intro u hu;simp[zs]at hu;obtain⟨k,_,rfl⟩:=hu;rfl
theorem xw {q:Addr}(h:j4 w (some q) n z):∀j u,(zs n z)[j]?=some u->w.cell? (q.add j)=some u:=by
 intro j u E;have hlt:j<n:=by have:=(ν.1 E).1;simpa[zs]using this
 obtain⟨b,o,hp,_,K⟩:=h j hlt;obtain rfl:=ah hp;rw[eZ,K,<- E];simp[zs,hlt]
theorem Aj {P:Program}{rest:List Oper}{a:Act}{ab5:Exit->Act->World->Prop}(hgd:o.guard=none)(s x:Operand)(t:TypeId)
  (ho:o.op=.call {callee:=.builtin .append,args:=#[s,x],argTypes:=#[t,t]})
  (base:Nat)(i:TypeInfo)(ht:P.underlying t=some (.slice 3))(hi:P.info? 3=some i)(hz:i.zero=some (.int .i64 0))(hsize:i.size=1)(hby:i.bytes=8)
  (hs:a.eval s=.slice none 0 0)(p:Option Addr)(n c:Nat)(z:Nat->Int)(hx:a.eval x=.slice p n c)(hn:j4 w p n z)(hp:p=none->c=0)(h20:n<=20)(hbase:base<=w.heap.size)
  (h:∀v w',w'.ownsRow base 3 1 v n (zs n z)->w.grownBy w' none->wpList P ops ab5 rest (a.put o.dst v) w'):wpList P ops ab5 (o::rest) a w:=by
 cases p with
 |none =>
  obtain rfl:=tR hn rfl;obtain rfl:=hp rfl;exact dO hgd s x t ho base 3 i 1 ht hi _ 0 [] hs (Ξ _ _ _ _) hx (h _ _ (Ξ _ _ _ _) ⟨rfl,rfl,rfl,ζ _,λ_ _ _=>rfl⟩)
 |some q =>
  refine Ω w hgd s x t ho base 3 i (.int .i64 0) 1 8 ht hi hz hsize hby rfl (by decide) _ 0 [] hs (Ξ _ _ _ _) _ n c (zs n z) hx (by rw[Ht,gq]) (xw hn) (Hu n z) (by unfold maxLen;omega) (by omega) hbase ?_;intro v w' G O h3;rw[bj,aT]at G;exact h v w' G (by simpa[Value.ownBlock]using O)
theorem qq {P:Program}{a:Act}{ab9:Act->World->Prop}{ab5:Exit->Act->World->Prop}{ab2:Prop}(hgd:o.guard=none)(s x:Operand)(t:TypeId)
  (ho:o.op=.call {callee:=.builtin .append,args:=#[s,x],argTypes:=#[t,t]})
  (base:Nat)(i:TypeInfo)(ht:P.underlying t=some (.slice 3))(hi:P.info? 3=some i)(hz:i.zero=some (.int .i64 0))(hsize:i.size=1)(hby:i.bytes=8)
  (hs:a.eval s=.slice none 0 0)(p:Option Addr)(n c:Nat)(z:Nat->Int)(hx:a.eval x=.slice p n c)(hn:j4 w p n z)(hp:p=none->c=0)(h20:n<=20)(hbase:base<=w.heap.size)
  (h:∀v w',w'.ownsRow base 3 1 v n (zs n z)->w.grownBy w' none->ab9 (a.put o.dst v) w'):
  if Region.wanted o (yielded ops a.tmps)=true then Oper.wp P o a w ab9 ab5 else ab2:=by
 have hw:Region.wanted o (yielded ops a.tmps)=true:=by simp[Region.wanted,hgd]
 rw[af hw];cases p with
 |none =>
  obtain rfl:=tR hn rfl;obtain rfl:=hp rfl;have hrun:=run_append_owned_none (P:=P) (w:=w) base t o.type 3 i 1 ht hi _ 0 [] (Ξ _ _ _ _);unfold Oper.wp;simp[execOp,ho,resolve,invoke,builtin,hs,hx,hrun,Result.andThen];exact h _ _ (Ξ _ _ _ _) ⟨rfl,rfl,rfl,ζ _,λ_ _ _=>rfl⟩
 |some q =>
  refine wp_append_own w s x t ho base 3 i (.int .i64 0) 1 8 ht hi hz hsize hby rfl (by decide) _ 0 [] hs (Ξ _ _ _ _) _ n c (zs n z) hx (by rw[Ht,gq]) (xw hn) (Hu n z) (by unfold maxLen;omega) (by omega) hbase ?_;intro v w' G O h3;rw[bj,aT]at G;exact h v w' G (by simpa[Value.ownBlock]using O)
theorem Ak:(prog.info? 38).map (λi=>(i.zero,i.size,i.bytes))=some (some (.slice none 0 0),1,24):=by kernel_rfl
theorem jr {b b' e' size' n':Nat}{v':Value}{xs':List Value}(h:w.ownsRow b e size v n xs)(h':w.ownsRow b' e' size' v' n' xs')(hne:e≠e'):v.ownBlock=none\/v.ownBlock≠v'.ownBlock:=by
 rcases h.2 with⟨rfl,_⟩|⟨g,cap,cur,rfl,_,hg,_⟩
 ·exact ε rfl
 ·right;rcases h'.2 with⟨rfl,_⟩|⟨g',cap',cur',rfl,_,qs,_⟩
  ·simp[Value.ownBlock]
  ·intro h;simp only[Value.ownBlock,τ]at h;subst h;rw[hg]at qs;simp only[τ,Obj.cells.injEq]at qs;exact hne qs.2.1
theorem fp {b:Nat}(h:w.ownsRow b e size v n xs){c:Nat}(K:c<b)(o:Nat)(u:Value):(w.setCell ⟨c,o,none⟩ u).ownsRow b e size v n xs:=by
 refine⟨h.1,?_⟩;rcases h.2 with O|⟨g,cap,cur,G,O,h3,h4⟩
 ·exact ε O
 ·refine δ ⟨g,cap,cur,G,O,?_,h4⟩;rw[μ _ _ _ _ (by simp;omega)];exact h3
theorem aN {b:Nat}(h:w.ownsRow b e size v n xs)(J:Below w.heap.size w w'):w'.ownsRow b e size v n xs:=by
 have hl:=h.lt;refine⟨h.1,?_⟩;rcases h.2 with O|⟨g,cap,cur,rfl,O,h3,h4⟩
 ·exact ε O
 ·exact δ ⟨g,cap,cur,rfl,O,(J.block g (hl g rfl).2).trans h3,h4⟩
theorem Al {b:Nat}(h:w.ownsRow b e size v n xs)(J:∀k,b<=k->w'.heap[k]?=w.heap[k]?):w'.ownsRow b e size v n xs:=by
 refine⟨h.1,?_⟩;rcases h.2 with O|⟨g,cap,cur,rfl,O,h3,h4⟩
 ·exact ε O
 ·exact δ ⟨g,cap,cur,rfl,O,(J g O).trans h3,h4⟩
theorem lQ {A:Nat}{a b c:World}(h:Kept A A a b)(k:Below N b c)(hN:a.heap.size<=N):Kept A A a c :=
 ⟨k.os.trans h.os,k.tape.trans h.tape,k.output.trans h.output,σ h.size k.size,λi hi G O=>(k.block i (ι hi hN)).trans (h.block i hi G O)⟩
structure ib (w:World)(b:Nat)(v u:Value)(mn lw hi:Int):Prop where
 c0:w.cell? ⟨b,0,none⟩=some v
 c1:w.cell? ⟨b,1,none⟩=some u
 c2:w.cell? ⟨b,2,none⟩=some (.int .i64 mn)
 c3:w.cell? ⟨b,3,none⟩=some (.int .i64 lw)
 c4:w.cell? ⟨b,4,none⟩=some (.int .i64 hi)
 ff:∀o,w.frozen? ⟨b,o,none⟩=false
 lt:b<w.heap.size
theorem Vi (w:World)(mn lw hi:Int)(b:Nat)(J:w.heap.size=b):ib (w.alloc (.cells #[.slice none 0 0,.slice none 0 0,.int .i64 mn,.int .i64 lw,.int .i64 hi] 127)) b (.slice none 0 0) (.slice none 0 0) mn lw hi:=by
 subst J;exact⟨by simp,by simp,by simp,by simp,by simp,λo=>by simp,by simp⟩
theorem ib.b {b:Nat}{u:Value}(h:ib w b v u mn lw hi)(J:Below w.heap.size w w'):ib w' b v u mn lw hi :=
 ⟨(J.cell (p:=⟨b,0,none⟩) h.lt).trans h.c0,(J.cell (p:=⟨b,1,none⟩) h.lt).trans h.c1,(J.cell (p:=⟨b,2,none⟩) h.lt).trans h.c2,(J.cell (p:=⟨b,3,none⟩) h.lt).trans h.c3,(J.cell (p:=⟨b,4,none⟩) h.lt).trans h.c4,λo=>(J.frozen (p:=⟨b,o,none⟩) h.lt).trans (h.ff o),ι h.lt J.size⟩
theorem ib.bn {b:Nat}{u:Value}(h:ib w b v u mn lw hi)(J:Below N w w')(hn:b<N):ib w' b v u mn lw hi :=
 ⟨(J.cell (p:=⟨b,0,none⟩) hn).trans h.c0,(J.cell (p:=⟨b,1,none⟩) hn).trans h.c1,(J.cell (p:=⟨b,2,none⟩) hn).trans h.c2,(J.cell (p:=⟨b,3,none⟩) hn).trans h.c3,(J.cell (p:=⟨b,4,none⟩) hn).trans h.c4,λo=>(J.frozen (p:=⟨b,o,none⟩) hn).trans (h.ff o),ι h.lt J.size⟩
theorem ib.p0 {b:Nat}{u:Value}(h:ib w b v u mn lw hi)(v':Value):ib (w.setCell ⟨b,0,none⟩ v') b v' u mn lw hi :=
 ⟨fK h.c0,(bu (by simp)).trans h.c1,(bu (by simp)).trans h.c2,(bu (by simp)).trans h.c3,(bu (by simp)).trans h.c4,λo=>by simp only[Ψ];exact h.ff o,by simpa[World.setCell]using h.lt⟩
theorem ib.p1 {b:Nat}{u:Value}(h:ib w b v u mn lw hi)(v':Value):ib (w.setCell ⟨b,1,none⟩ v') b v v' mn lw hi :=
 ⟨(bu (by simp)).trans h.c0,fK h.c1,(bu (by simp)).trans h.c2,(bu (by simp)).trans h.c3,(bu (by simp)).trans h.c4,λo=>by simp only[Ψ];exact h.ff o,by simpa[World.setCell]using h.lt⟩
theorem Mi (c:Cf)(p q:Option Addr)(pc qc:Nat)(w:World)(h:At w c p q)(hwd:¬c.wide)(hp:p=none->pc=0):
  Calls prog 65 #[sK c p pc q qc] w λev w'=>∃p' q' Vj Vk,ev=.returned (sK c p' Vj q' Vk)/\At w' c p' q'/\Below w.heap.size w w':=by
 unfold sK;have BX:=ji w c p q pc qc 122;have F1:=χ (γ w.heap.size w) (.cells #[.slice p c.n pc,.slice q c.m qc,.int .i64 c.mn,.int .i64 c.lw,.int .i64 c.hi] 122);have A1:=h.b F1;clear h;obtain⟨n,P,m,M,ab8,mn,lw,hi⟩:=c;simp only at*;obtain⟨i1,Am,Ao,wK,uV⟩:=aY Ak;have HJ:=I Am;have HY:=I Ao;have Cq:=I wK;have KL:=I uV;clear Am Ao wK uV;obtain⟨i0,eO,hz0,hz1,hz2⟩:=aY info3;have HI:=I eO;have HZ:=I hz0;have eI:=I hz1;have eJ:=I hz2;clear eO hz0 hz1 hz2;have b0:=BX.c0;have b1:=BX.c1;have b2:=BX.c2;have b3:=BX.c3;have b4:=BX.c4;have bl:=BX.lt;simp only at b0 b1 b2 b3 b4;have aan:n<=20:=bE λh=>hwd (ε h);have abB:m<=20:=bE λh=>hwd (δ (ε h));have aao:Hid (∀i,i<m->M i<=20):=λi hi=>bE λh=>hwd (δ (δ ⟨i,hi,h⟩));have HP:=I hp;have A1:=I A1;clear hwd BX hp;have F3:=I (χ (χ F1 (.cells #[.slice none 0 0,.slice none 0 0,.int .i64 0,.int .i64 0,.int .i64 0] 127)) (.cells #[.slice none 0 0,.slice none 0 0,.int .i64 mn,.int .i64 lw,.int .i64 hi] 127));have F31:=I (χ (χ (γ (w.alloc (.cells #[.slice p n pc,.slice q m qc,.int .i64 mn,.int .i64 lw,.int .i64 hi] 122)).heap.size _) (.cells #[.slice none 0 0,.slice none 0 0,.int .i64 0,.int .i64 0,.int .i64 0] 127)) (.cells #[.slice none 0 0,.slice none 0 0,.int .i64 mn,.int .i64 lw,.int .i64 hi] 127));have s3:(((w.alloc (.cells #[.slice p n pc,.slice q m qc,.int .i64 mn,.int .i64 lw,.int .i64 hi] 122)).alloc (.cells #[.slice none 0 0,.slice none 0 0,.int .i64 0,.int .i64 0,.int .i64 0] 127)).alloc (.cells #[.slice none 0 0,.slice none 0 0,.int .i64 mn,.int .i64 lw,.int .i64 hi] 127)).heap.size=w.heap.size+3:=by simp
 have y0:=Vi ((w.alloc (.cells #[.slice p n pc,.slice q m qc,.int .i64 mn,.int .i64 lw,.int .i64 hi] 122)).alloc (.cells #[.slice none 0 0,.slice none 0 0,.int .i64 0,.int .i64 0,.int .i64 0] 127)) mn lw hi (w.heap.size+1+1) (by simp);have r0:=I ((Vi (w.alloc (.cells #[.slice p n pc,.slice q m qc,.int .i64 mn,.int .i64 lw,.int .i64 hi] 122)) 0 0 0 (w.heap.size+1) (by simp)).b (χ (γ _ _) (.cells #[.slice none 0 0,.slice none 0 0,.int .i64 mn,.int .i64 lw,.int .i64 hi] 127)));have s1:(w.alloc (.cells #[.slice p n pc,.slice q m qc,.int .i64 mn,.int .i64 lw,.int .i64 hi] 122)).heap.size=w.heap.size+1:=by simp
 have eU:True:=trivial;go_enter func65,ntmps65;go_wp2_with (at_builtin;have _t:=eU;generalize(((w.alloc (.cells #[.slice p n pc,.slice q m qc,.int .i64 mn,.int .i64 lw,.int .i64 hi] 122)).alloc (.cells #[.slice none 0 0,.slice none 0 0,.int .i64 0,.int .i64 0,.int .i64 0] 127)).alloc (.cells #[.slice none 0 0,.slice none 0 0,.int .i64 mn,.int .i64 lw,.int .i64 hi] 127))=W3 at*;generalize w.alloc (.cells #[.slice p n pc,.slice q m qc,.int .i64 mn,.int .i64 lw,.int .i64 hi] 122)=W1 at*;refine Aj rfl (.tmp 10) (.tmp 12) 38 rfl W3.heap.size i0 underlying38 (Z HI) (Z HZ) (Z eI) (Z eJ) rfl p n pc P rfl ((Z A1).ps.b (Z F31)) (Z HP) aan (ζ _) ?_;intro v4 w4 o4 g4;obtain⟨p4,c4,hv4,n4,e4⟩:=qC o4;subst hv4;have B4:Below W3.heap.size W3 w4:=(γ _ _).grown g4 (ζ _) (λk D=>by cases D);have Y4:=y0.b B4;have yc0:=Y4.c0;have yf0:=Y4.ff 0;clear eU);have y5:=I (Y4.p0 (.slice p4 n c4));have o5:=I (fp o4 (c:=w.heap.size+1+1) (by omega) 0 (.slice p4 n c4));have k5:=I ((dY B4:Kept (w.heap.size+1+1) (w.heap.size+1+1) W3 w4).trans (bA w4 0 (.slice p4 n c4)));have KB:=I (λwr (D:Kept (w.heap.size+1+1) (w.heap.size+1+1) W3 wr)=>(Z F31).trans (D.below (N:=W1.heap.size) (by omega) (by omega) (by omega)));clear o4 B4 g4 Y4 yc0 yf0 y0 n4;go_loopw [4] (λa wr=>∃(i:Nat) (pu:Option Addr) (cu:Nat) (xs:List Value),a=.int .i64 i/\i<=m/\Hid (ib wr (w.heap.size+1+1) (.slice p4 n c4) (.slice pu i cu) mn lw hi)/\Hid (wr.ownsRow W3.heap.size 3 1 (.slice p4 n c4) n (zs n P))/\Hid (wr.ownsRow W3.heap.size 38 1 (.slice pu i cu) i xs)/\Hid (∀j,j<i->∃v,xs[j]?=some v/\wr.ownsRow W3.heap.size 3 1 v (M j) (zs (M j) (ab8 j)))/\Hid (Kept (w.heap.size+1+1) (w.heap.size+1+1) W3 wr)) (λa _=>m-(intOf a).toNat)
 case atStart=>exact⟨0,none,0,[],rfl,Γ _,y5,o5,Ξ _ _ _ _,λj E=>by omega,k5⟩
 case round =>
  clear y5 o5 k5;obtain⟨i,pu,cu,xs,rfl,hi',ab6,ab4,U,R,ab9⟩:=hrel;have oG:(0:Int)<=i:=by omega
  have HB:=(Z KB) _ (Z ab9);have d1:=(HB.cell (p:=⟨w.heap.size,1,none⟩) bl).trans b1;have yc1:=(Z ab6).c1;have yf1:=(Z ab6).ff 1;by_cases eY:i<m
  ·have hlt:(i:Int)<m:=by omega
   obtain⟨blk,off,pr,cc,rfl,hbl,K,hrow,wI⟩:=((Z A1).rs.b HB) i eY;have hMi:=(Z aao) i eY;simp only at K hrow;have hrow:=I hrow;have jg:True:=trivial;have hsz:=(Z ab9).size;clear HB;generalize hMe:M i=l at*;generalize hDe:ab8 i=z at*;go_wp2_with fail;go_region_law (first
    |(have _t:=jg;refine qq rfl (.tmp 24) (.tmp 29) 38 rfl W3.heap.size i0 underlying38 (Z HI) (Z HZ) (Z eI) (Z eJ) (by simp[Act.eval]) pr l cc z (by simp[Act.eval]) ((Z hrow).b (dw _)) wI hMi hsz ?_;intro v6 w6 o6 g6;obtain⟨p6,c6,hv6,_,_⟩:=qC o6;subst hv6;have B6:Below wr.heap.size wr.drew w6:=(γ _ _).grown g6 (ζ _) (λk D=>by cases D);have C6:Below wr.heap.size wr w6:=(dw wr).trans B6;have U6:=aN (Z U) C6;have Y6:=(Z ab6).b C6;have yc6:=Y6.c1;have yf6:=Y6.ff 1;have ya6:=(Y6.b (χ (γ _ _) (.cells #[.slice p6 l c6] 38))).c1;clear jg)
    |(refine bX _ rfl (.tmp 23) (.tmp 31) 118 rfl W3.heap.size 38 i1 (.slice none 0 0) 1 24 underlying118 (Z HJ) (Z HY) (Z Cq) (Z KL) rfl (by decide) (.slice pu i cu) i xs (by simp[Act.eval]) (U6.alloc _) ⟨w6.heap.size,0,none⟩ 1 1 [.slice p6 l c6] (by simp[Act.eval]) rfl (by intro j u E;match j,E with|0,E=>simp at E;subst E;simp[Addr.add]) (by intro u hu;simp at hu;subst hu;rfl) (by omega) (by unfold maxLen;omega) (by omega) (by have:=C6.size;simp;omega) _ rfl ?_;intro g8 c8 w8 o8 q8 _ _;have B8:Below W3.heap.size wr w8:=((C6.mono hsz).alloc (σ hsz C6.size) _).grown q8 (by have:=C6.size;simp;omega) (bL U6);have Y8:=(Z ab6).bn B8 (by omega);have yc8:=Y8.c1;have yf8:=Y8.ff 1))
   all_goals
    have sL:∀(v:Value) (k:Nat) (xs':List Value),wr.ownsRow W3.heap.size 3 1 v k xs'->w8.ownsRow W3.heap.size 3 1 v k xs':=λv k xs' h =>
     ((aN h C6).alloc _).kept q8 (jr (aN h C6) U6 (by decide))
    have O8:=sL _ _ _ (Z ab4);have V8:=(o6.alloc _).kept q8 (jr o6 U6 (by decide));have OI:xs.length=i:=by have:=U6.1;omega
    have R9:Hid (∀j,j<i+1->∃v,(xs++[.slice p6 l c6])[j]?=some v/\(w8.setCell ⟨w.heap.size+1+1,1,none⟩ (.slice (some ⟨g8,0,none⟩) (i+1) c8)).ownsRow W3.heap.size 3 1 v (M j) (zs (M j) (ab8 j))):=λj E=>by
     rcases bC j i with h'|h'
     ·obtain⟨v,e1,e2⟩:=(Z R) j h';exact⟨v,by rw[ar (by omega)];exact e1,fp (sL _ _ _ e2) (by omega) _ _⟩
     ·obtain rfl:j=i:=by omega
      refine⟨.slice p6 l c6,by rw[aq (by omega)];simp[OI],?_⟩;rw[hMe,hDe];exact fp V8 (by omega) _ _
    have Y9:=I (Y8.p1 (.slice (some ⟨g8,0,none⟩) (i+1) c8));have O9:=I (fp O8 (c:=w.heap.size+1+1) (by omega) 1 (.slice (some ⟨g8,0,none⟩) (i+1) c8));have U9:=I (fp o8 (c:=w.heap.size+1+1) (by omega) 1 (.slice (some ⟨g8,0,none⟩) (i+1) c8));have K9:=I ((lQ (Z ab9) B8 (ζ _)).trans (bA w8 1 (.slice (some ⟨g8,0,none⟩) (i+1) c8)));clear sL O8 V8 Y8 Y6 U6 C6 B8 yc6 yf6 ya6 yc8 yf8 o6 o8 q8 g6 B6 d1 yc1 yf1 hrow ab6 ab4 U R ab9;go_wp2;go_roundw;case rel=>exact⟨i+1,some ⟨g8,0,none⟩,c8,xs++[.slice p6 l c6],by go_num,by omega,Y9,O9,U9,R9,K9⟩
    case measure=>simp[intOf];omega
  ·have hlt:¬(i:Int)<m:=by omega
   obtain rfl:m=i:=by omega
   have yc0:=(Z ab6).c0;have yc2:=(Z ab6).c2;have yc3:=(Z ab6).c3;have yc4:=(Z ab6).c4;have HRB:=(Z r0);have HRK:Below (w.heap.size+1+1) W3 wr:=(Z ab9).below (by omega) (by omega) (by omega);have RX:=HRB.bn HRK (by omega);have rx0:=RX.c0;have rx1:=RX.c1;have rx2:=RX.c2;have rx3:=RX.c3;have rx4:=RX.c4;have rf0:=RX.ff 0;have rf1:=RX.ff 1;have rf2:=RX.ff 2;have rf3:=RX.ff 3;have rf4:=RX.ff 4;clear HRB HRK RX;have F9:=((Z F3).trans ((Z ab9).below (N:=w.heap.size) (by omega) (by omega) (by omega)));have nC:Hid (∀wf:World,(∀k,W3.heap.size<=k->wf.heap[k]?=wr.heap[k]?)->At wf ⟨n,P,m,M,ab8,mn,lw,hi⟩ p4 pu):=by
    intro wf hwf;obtain⟨p5,c5,e5,n5,_⟩:=qC (Al (Z ab4) hwf);simp only[ψ,aZ]at e5;obtain⟨rfl,rfl⟩:=e5;refine⟨n5,λj Cn=>?_⟩;have E:j<m:=Cn;obtain⟨v,e1,e2⟩:=(Z R) j E;obtain⟨pj,cj,rfl,nj,zj⟩:=qC (Al e2 hwf);have UU:=Al (Z U) hwf;rcases UU.2 with⟨_,h0⟩|⟨g,cap,cur,hv,J,hg,hle,gB,hcs,hx⟩
    ·omega
    ·simp only[ψ]at hv;obtain⟨rfl,_,rfl⟩:=hv;have sD:=(UU.lt g rfl).2;refine⟨g,0,pj,cj,rfl,sD,?_,nj,zj⟩;rw[bj,UU.cellAt j (by omega),e1]
   clear ab4 U R ab9 ab6;go_wp2;have t0:=fK (v:=.slice p4 n c4) rx0;have t1:=fK (v:=.slice pu m cu) ((bu (w:=wr) (a:=⟨w.heap.size+1,0,none⟩) (b:=⟨w.heap.size+1,1,none⟩) (v:=.slice p4 n c4) (by simp)).trans rx1);have t2:=fK (v:=.int .i64 mn) ((bu (a:=⟨w.heap.size+1,1,none⟩) (b:=⟨w.heap.size+1,2,none⟩) (v:=.slice pu m cu) (by simp)).trans ((bu (w:=wr) (a:=⟨w.heap.size+1,0,none⟩) (b:=⟨w.heap.size+1,2,none⟩) (v:=.slice p4 n c4) (by simp)).trans rx2));have t3:=fK (v:=.int .i64 lw) ((bu (a:=⟨w.heap.size+1,2,none⟩) (b:=⟨w.heap.size+1,3,none⟩) (v:=.int .i64 mn) (by simp)).trans ((bu (a:=⟨w.heap.size+1,1,none⟩) (b:=⟨w.heap.size+1,3,none⟩) (v:=.slice pu m cu) (by simp)).trans ((bu (w:=wr) (a:=⟨w.heap.size+1,0,none⟩) (b:=⟨w.heap.size+1,3,none⟩) (v:=.slice p4 n c4) (by simp)).trans rx3)));have t4:=fK (v:=.int .i64 hi) ((bu (a:=⟨w.heap.size+1,3,none⟩) (b:=⟨w.heap.size+1,4,none⟩) (v:=.int .i64 lw) (by simp)).trans ((bu (a:=⟨w.heap.size+1,2,none⟩) (b:=⟨w.heap.size+1,4,none⟩) (v:=.int .i64 mn) (by simp)).trans ((bu (a:=⟨w.heap.size+1,1,none⟩) (b:=⟨w.heap.size+1,4,none⟩) (v:=.slice pu m cu) (by simp)).trans ((bu (w:=wr) (a:=⟨w.heap.size+1,0,none⟩) (b:=⟨w.heap.size+1,4,none⟩) (v:=.slice p4 n c4) (by simp)).trans rx4))));(try simp only[Exit.inBlock,Exit.then]);refine Θ (v:=.agg #[.slice p4 n c4,.slice pu m cu,.int .i64 mn,.int .i64 lw,.int .i64 hi]) (by simp[results,results65,go_sem,t0,t1,t2,t3,t4];try rfl) rfl ?_;refine⟨p4,pu,⟨c4,cu,rfl⟩,(Z nC) _ ?_,?_⟩
   ·intro k D;have hne:k≠w.heap.size+1:=by omega
    rw[μ _ _ _ _ hne,μ _ _ _ _ hne,μ _ _ _ _ hne,μ _ _ _ _ hne,μ _ _ _ _ hne]
   ·exact((((F9.setCell (by simp) _).setCell (by simp) _).setCell (by simp) _).setCell (by simp) _).setCell (by simp) _
end Zn
namespace Bd
open Fr
variable {w w':World}{A g:Nat}{v:Value}{t:TypeId}
theorem fM {b e size n:Nat}{xs:List Value}(h:w.ownsRow b e size v n xs)(D:Kept A A w w')(ht:Tag w A t)(hne:t≠e):w'.ownsRow b e size v n xs:=by
 have hl:=h.lt;refine⟨h.1,?_⟩;rcases h.2 with O|⟨g,cap,cur,rfl,O,h3,h4⟩
 ·exact ε O
 ·have n1:g≠A:=λe1=>Tag.ne (t:=e) (t':=t) (g:=g) (g':=A) ⟨cur,_,h3⟩ ht hne.symm e1;exact δ ⟨g,cap,cur,rfl,O,(D.block g (hl g rfl).2 n1 n1).trans h3,h4⟩
theorem Row.keep {R:List Bl}(h:Row w g R)(D:Kept A A w w')(hne:g≠A):Row w' g R :=
 ⟨λi hi=>⟨(D.cell (p:=⟨g,i*2,none⟩) h.lt hne hne).trans (h.c i hi).1,(D.cell (p:=⟨g,i*2+1,none⟩) h.lt hne hne).trans (h.c i hi).2⟩,λo ho=>(π (w:=w) (a:=⟨g,o,none⟩) (D.block g h.lt hne hne)).trans (h.fz o ho),ι h.lt D.size⟩
theorem Tag.keep (h:Tag w g t)(D:Kept A A w w')(hne:g≠A):Tag w' g t:=h.blk (D.block g h.lt hne hne)
theorem RL.keep {b:Nat}{L:List Bl}(h:RL w b v L)(D:Kept A A w w')(ht:Tag w A t)(hne:t≠291):RL w' b v L:=by
 rcases h with h|⟨g,c,hv,h0,G,O,h3,hr⟩
 ·exact ε h
 ·have n1:=Tag.ne hr.tg ht hne.symm;exact δ ⟨g,c,hv,h0,G,O,h3,hr.toRow.keep D n1,hr.tg.keep D n1⟩
theorem RB.keep {b:Nat}{N:Int}{aca T:List Bl}(h:RB w b N aca T)(D:Kept A A w w')(J:b≠A)(ht:Tag w A t)(hne:t≠291):RB w' b N aca T:=by
 obtain⟨v1,e1,l1⟩:=h.c1;obtain⟨v2,e2,l2⟩:=h.c2;have fr:∀o,w'.frozen? ⟨b,o,none⟩=w.frozen? ⟨b,o,none⟩:=λo=>π (w:=w) (a:=⟨b,o,none⟩) (D.block b h.lt J J);exact⟨(D.cell (p:=⟨b,0,none⟩) h.lt J J).trans h.c0,⟨v1,(D.cell (p:=⟨b,1,none⟩) h.lt J J).trans e1,l1.keep D ht hne⟩,⟨v2,(D.cell (p:=⟨b,2,none⟩) h.lt J J).trans e2,l2.keep D ht hne⟩,(fr 1).trans h.f1,(fr 2).trans h.f2,ι h.lt D.size,h.tg.keep D J⟩
end Bd
namespace Zn
open Fr Bd
theorem lR {P:Program}{w:World}{ops:Array Oper}{o:Oper}{a:Act}{ab9:Act->World->Prop}{ab5:Exit->Act->World->Prop}{ab2:Prop}(hgd:o.guard=none)(s x:Operand)(t:TypeId)
  (ho:o.op=.call {callee:=.builtin .append,args:=#[s,x],argTypes:=#[t,t]})
  (base:Nat)(i:TypeInfo)(ht:P.underlying t=some (.slice 291))(hi:P.info? 291=some i)(hz:i.zero=some (.agg #[.int .i64 0,.int .i64 0]))(hsize:i.size=2)(hby:i.bytes=16)
  (hs:a.eval s=.slice none 0 0)(b:Nat)(p:Option Addr)(n c:Nat)(L:List Bl)(hx:a.eval x=.slice p n c)(hr:RL w b (.slice p n c) L)(hl:L.length<=256)(hbase:base<=w.heap.size)
  (h:∀p' c' w',w'.ownsRow base 291 2 (.slice p' L.length c') L.length (flat L)->(L=[]->Value.slice p' L.length c'=.slice none 0 0)->w.grownBy w' none->ab9 (a.put o.dst (.slice p' L.length c')) w'):
  if Region.wanted o (yielded ops a.tmps)=true then Oper.wp P o a w ab9 ab5 else ab2:=by
 have hw:Region.wanted o (yielded ops a.tmps)=true:=by simp[Region.wanted,hgd]
 rw[af hw];rcases hr with⟨rfl,hv⟩|⟨g,c',hv,_,G,O,h3,hrow⟩
 ·simp only[ψ]at hv;obtain⟨rfl,rfl,rfl⟩:=hv;have hrun:=run_append_owned_none (P:=P) (w:=w) base t o.type 291 i 2 ht hi _ 0 [] (Ξ _ _ _ _);unfold Oper.wp;simp[execOp,ho,resolve,invoke,builtin,hs,hx,hrun,Result.andThen];exact h none 0 _ (Ξ _ _ _ _) (λ_=>rfl) ⟨rfl,rfl,rfl,ζ _,λ_ _ _=>rfl⟩
 ·simp only[ψ]at hv;obtain⟨rfl,rfl,rfl⟩:=hv;have qo:(flat L).length=L.length*2:=cd L;refine wp_append_own w s x t ho base 291 i (.agg #[.int .i64 0,.int .i64 0]) 2 16 ht hi hz hsize hby rfl (by decide) _ 0 [] hs (Ξ _ _ _ _) ⟨g,0,none⟩ L.length c (flat L) hx qo (λj u E=>by rw[eZ,bj];exact m_ hrow.toRow j u E) (fL L) (by unfold maxLen;omega) (by omega) hbase ?_;intro v w' h4 h5 h6;rw[bj,aT]at h4;obtain⟨g',cap',rfl,_⟩:=oQ h4 h3;exact h _ _ w' h4 (λh7=>absurd h7 h3) (by simpa[Value.ownBlock]using h5)
theorem Hv {w:World}{a:Addr}{b:Nat}(h:∃u,w.cell? a=some u/\RL w b u []):w.cell? a=some (.slice none 0 0):=by
 obtain⟨u,hu,hl⟩:=h;rcases hl with⟨_,rfl⟩|⟨_,_,_,_,_,_,hL,_⟩
 ·exact hu
 ·exact absurd rfl hL
theorem Q3:(prog.info? 291).map (λi=>(i.zero,i.size,i.bytes))=some (some (.agg #[.int .i64 0,.int .i64 0]),2,16):=by kernel_rfl
theorem Mj (b:Nat)(N:Int)(aca T:List Bl)(w:World)(h:RB w b N aca T)(hF:aca.length<=256)(hT:T.length<=256):
  Calls prog 236 #[ptr b] w λev w'=>∃c,ev=.returned (ptr c)/\RB w' c N aca T/\w.heap.size<=c/\Below w.heap.size w w':=by
 obtain⟨i0,eO,hz0,hz1,hz2⟩:=aY Q3;have HI:=I eO;have HZ:=I hz0;have eI:=I hz1;have eJ:=I hz2;clear eO hz0 hz1 hz2;have e0:=h.c0;have W0:=h.b (χ (γ w.heap.size w) (.cells #[.int .i64 N,.slice none 0 0,.slice none 0 0] 333));have R0:RB (w.alloc (.cells #[.int .i64 N,.slice none 0 0,.slice none 0 0] 333)) w.heap.size N [] []:=⟨θ w _ 333 0,⟨_,θ w _ 333 1,ε ⟨rfl,rfl⟩⟩,⟨_,θ w _ 333 2,ε ⟨rfl,rfl⟩⟩,by simp,by simp,by simp,bB _ _ _⟩;have F0:=I (χ (γ w.heap.size w) (.cells #[.int .i64 N,.slice none 0 0,.slice none 0 0] 333));have hs0:(w.alloc (.cells #[.int .i64 N,.slice none 0 0,.slice none 0 0] 333)).heap.size=w.heap.size+1:=by simp
 have YB:b≠w.heap.size:=Nat.ne_of_lt h.lt;clear h;have hq:∀x:Nat,ptr x=.pointer (some ⟨x,0,none⟩):=λ_=>rfl;rw[hq b];go_enter func236,ntmps236;go_wp2_with fail;generalize w.alloc (.cells #[.int .i64 N,.slice none 0 0,.slice none 0 0] 333)=W at*;obtain⟨v1,e1,l1⟩:=W0.c1;obtain⟨v2,e2,l2⟩:=W0.c2;obtain⟨p1,n1,c1,rfl,l1⟩:=lG l1;obtain⟨p2,n2,c2,rfl,l2⟩:=lG l2;have z1:W.cell? ⟨w.heap.size,1,none⟩=some (.slice none 0 0):=by
  obtain⟨u,hu,hl⟩:=R0.c1;rcases hl with⟨_,rfl⟩|⟨_,_,_,_,_,_,hL,_⟩
  ·exact hu
  ·exact absurd rfl hL
 have z2:W.cell? ⟨w.heap.size,2,none⟩=some (.slice none 0 0):=by
  obtain⟨u,hu,hl⟩:=R0.c2;rcases hl with⟨_,rfl⟩|⟨_,_,_,_,_,_,hL,_⟩
  ·exact hu
  ·exact absurd rfl hL
 have zf1:=R0.f1;have zlt:=R0.lt;have wlt:=W0.lt;have R0:=I R0;have W0:=I W0;have l1:=I l1;go_region_law (refine lR rfl (.tmp 14) (.tmp 18) 322 rfl W.heap.size i0 underlying322 (Z HI) (Z HZ) (Z eI) (Z eJ) (by simp[Act.eval]) b p1 n1 c1 aca (by simp[Act.eval]) ((Z l1).b (dw _)) hF (ζ _) ?_;intro p3 c3 w3 o3 k3 g3;have B3:Below W.heap.size W w3:=(dw W).trans ((γ _ _).grown g3 (ζ _) (λk D=>by cases D));have s3:=(B3.cell (p:=⟨w.heap.size,1,none⟩) zlt).trans z1;have f3:=(B3.frozen (p:=⟨w.heap.size,1,none⟩) zlt).trans zf1);all_goals
  have R3:=I (((Z R0).b B3).QP (tM o3 k3 zlt));have K3:=(dY B3:Kept w.heap.size w.heap.size W w3).trans (bA w3 1 (.slice p3 aca.length c3));have W3:=I ((Z W0).keep K3 YB (Z R0).tg (by decide));have F3:=I ((Z F0).trans ((B3.mono (by omega):Below w.heap.size W w3).setCell (ζ _) (.slice p3 aca.length c3):Below w.heap.size W (w3.setCell ⟨w.heap.size,1,none⟩ (.slice p3 aca.length c3))));have l2':=I ((show RL W b (.slice p2 n2 c2) T from l2).keep K3 (Z R0).tg (by decide));have xx:=(K3.cell (p:=⟨b,2,none⟩) wlt YB YB).trans e2;have z2':=Hv (Z R3).c2;have zf2:=(Z R3).f2;have Mk:=(Z R3).lt;have Vl:w.heap.size<(w3.setCell ⟨w.heap.size,1,none⟩ (.slice p3 aca.length c3)).heap.size:=Mk;clear e1 e2 z1 z2 zf1 K3 B3 s3 f3 o3 k3 g3 l1 l2;go_wp2_with fail;generalize w3.setCell ⟨w.heap.size,1,none⟩ (.slice p3 aca.length c3)=ab7 at*;go_region_law (refine lR rfl (.tmp 26) (.tmp 30) 322 rfl ab7.heap.size i0 underlying322 (Z HI) (Z HZ) (Z eI) (Z eJ) (by simp[Act.eval]) b p2 n2 c2 T (by simp[Act.eval]) ((Z l2').b (dw _)) hT (ζ _) ?_;intro p5 c5 w5 o5 k5 g5;have B5:Below ab7.heap.size ab7 w5:=(dw ab7).trans ((γ _ _).grown g5 (ζ _) (λk D=>by cases D));have s5:=(B5.cell (p:=⟨w.heap.size,2,none⟩) Mk).trans z2';have f5:=(B5.frozen (p:=⟨w.heap.size,2,none⟩) Mk).trans zf2);all_goals
   have R5:=((Z R3).b B5).UR (tM o5 k5 Mk);have F5:=((Z F3).trans ((B5.mono (by omega):Below w.heap.size ab7 w5).setCell (ζ _) (.slice p5 T.length c5):Below w.heap.size ab7 (w5.setCell ⟨w.heap.size,2,none⟩ (.slice p5 T.length c5))));clear s5 f5 xx z2' zf2 B5 o5 k5 g5 l2';go_wp2;go_ret;exact⟨w.heap.size,rfl,R5,ζ _,F5⟩
end Zn
namespace Bd
open Fr
structure Nd where
 N:Int
 aca:List Bl
 T:List Bl
def Nd.ok (d:Nd):Prop:=1<=d.N/\d.N<=256/\Inv d.N d.aca d.T
def up {α : Type}(f:Nat->α)(i:Nat)(v : α):Nat->α:=λj=>if j=i then v else f j
theorem gJ {α : Type}(f:Nat->α)(i:Nat)(v : α):up f i v i=v:=by simp[up]
theorem fj {α : Type}(f:Nat->α){i j:Nat}(v : α)(h:j≠i):up f i v j=f j:=by simp[up,h]
def kW (k:Nat)(nb:Nat->Nat):List Value:=(List.range k).map λi=>ptr (nb i)
theorem nW {k:Nat}{nb:Nat->Nat}{i:Nat}(h:i<k):(kW k nb)[i]?=some (ptr (nb i)):=by simp[kW,h]
theorem Hw {k:Nat}{nb:Nat->Nat}{i c:Nat}:(kW k nb).set i (ptr c)=kW k (up nb i c):=by
 apply dN;intro j;rw[List.getElem?_set];by_cases E:j<k
 ·by_cases h:i=j
  ·subst h;simp[kW,E,up]
  ·rw[ai h];simp[kW,E,up,Ne.symm h]
 ·by_cases h:i=j
  ·subst h;simp[kW,E]
  ·rw[ai h];simp[kW,E]
end Bd
namespace Zn
open Fr Bd
variable {w w':World}{z:Nat}{hi lw mn:Int}{nb:Nat->Nat}{V:Nat->Nd}{fr:Nat->List Nat}
structure RZ (w:World)(z:Nat)(mn lw hi:Int)(k:Nat)(nb:Nat->Nat)(V:Nat->Nd)(fr:Nat->List Nat):Prop where
 m2:w.cell? ⟨z,2,none⟩=some (.int .i64 mn)
 m3:w.cell? ⟨z,3,none⟩=some (.int .i64 lw)
 m4:w.cell? ⟨z,4,none⟩=some (.int .i64 hi)
 cn:∃g c,w.cell? ⟨z,5,none⟩=some (.slice (some ⟨g,0,none⟩) k c)/\w.ownsRow 0 253 1 (.slice (some ⟨g,0,none⟩) k c) k (kW k nb)
 cf:∃g c rows,w.cell? ⟨z,6,none⟩=some (.slice (some ⟨g,0,none⟩) k c)/\w.ownsRow 0 38 1 (.slice (some ⟨g,0,none⟩) k c) k rows/\∀i,i<k->∃h d,rows[i]?=some (.slice (some ⟨h,0,none⟩) (fr i).length d)/\w.ownsRow 0 3 1 (.slice (some ⟨h,0,none⟩) (fr i).length d) (fr i).length (dX (fr i))
 tg:Tag w z 252
 rb:∀i,i<k->RB w (nb i) (V i).N (V i).aca (V i).T
 ok:∀i,i<k->(V i).ok
 ne:∀i j,i<k->j<k->i≠j->nb i≠nb j
theorem RZ.b {k:Nat}(h:RZ w z mn lw hi k nb V fr)(J:Below w.heap.size w w'):RZ w' z mn lw hi k nb V fr:=by
 have hl:=h.tg.lt;obtain⟨g,c,e1,o1⟩:=h.cn;obtain⟨g2,c2,rows,e2,o2,r2⟩:=h.cf;refine⟨(J.cell (p:=⟨z,2,none⟩) hl).trans h.m2,(J.cell (p:=⟨z,3,none⟩) hl).trans h.m3,(J.cell (p:=⟨z,4,none⟩) hl).trans h.m4,⟨g,c,(J.cell (p:=⟨z,5,none⟩) hl).trans e1,aN o1 J⟩,⟨g2,c2,rows,(J.cell (p:=⟨z,6,none⟩) hl).trans e2,aN o2 J,λi hi=>?_⟩,h.tg.b J,λi hi=>(h.rb i hi).b J,h.ok,h.ne⟩;obtain⟨h',d,e3,o3⟩:=r2 i hi;exact⟨h',d,e3,aN o3 J⟩
theorem RZ.keep {A:Nat}{k:Nat}(h:RZ w z mn lw hi k nb V fr)(D:Kept A A w w'){t:TypeId}(ht:Tag w A t)(n1:t≠252)(n2:t≠253)(n3:t≠38)(n4:t≠3)(n5:t≠291)(n6:t≠333):RZ w' z mn lw hi k nb V fr:=by
 have hl:=h.tg.lt;have hz:=h.tg.ne ht n1.symm;obtain⟨g,c,e1,o1⟩:=h.cn;obtain⟨g2,c2,rows,e2,o2,r2⟩:=h.cf;refine⟨(D.cell (p:=⟨z,2,none⟩) hl hz hz).trans h.m2,(D.cell (p:=⟨z,3,none⟩) hl hz hz).trans h.m3,(D.cell (p:=⟨z,4,none⟩) hl hz hz).trans h.m4,⟨g,c,(D.cell (p:=⟨z,5,none⟩) hl hz hz).trans e1,fM o1 D ht n2⟩,⟨g2,c2,rows,(D.cell (p:=⟨z,6,none⟩) hl hz hz).trans e2,fM o2 D ht n3,λi hi=>?_⟩,h.tg.keep D hz,λi hi=>(h.rb i hi).keep D ((h.rb i hi).tg.ne ht n6.symm) ht n5,h.ok,h.ne⟩;obtain⟨h',d,e3,o3⟩:=r2 i hi;exact⟨h',d,e3,fM o3 D ht n4⟩
theorem oY (z:Nat)(mn lw hi:Int)(k:Nat)(nb:Nat->Nat)(V:Nat->Nd)(fr:Nat->List Nat)(x:Int)(w:World)(h:RZ w z mn lw hi k nb V fr):
  Calls prog 89 #[ptr z,.int .i64 x] w λev w'=>ev=.returned (.bool (decide (0<=x/\x<k)))/\Below w.heap.size w w':=by
 obtain⟨g,c,e1,o1⟩:=h.cn;clear h o1;unfold ptr;by_cases h0:0<=x
 ·have d0:decide (0<=x)=true:=by simpa using h0
  have dd:decide (0<=x/\x<k)=decide (x<k):=by simp[h0]
  rw[dd];go_enter func89,ntmps89;go_wp2;go_ret;exact⟨rfl,γ _ _⟩
 ·have d0:decide (0<=x)=false:=by simpa using h0
  have dd:decide (0<=x/\x<k)=false:=by simp[h0]
  rw[dd];go_enter func89,ntmps89;go_wp2;go_ret;exact⟨rfl,γ _ _⟩
theorem RZ.node {k:Nat}(h:RZ w z mn lw hi k nb V fr){x:Nat}(hx:x<k):∃g c,w.cell? ⟨z,5,none⟩=some (.slice (some ⟨g,0,none⟩) k c)/\g<w.heap.size/\w.cell? ⟨g,x,none⟩=some (ptr (nb x)):=by
 obtain⟨g,c,e1,o1⟩:=h.cn;exact⟨g,c,e1,(o1.lt g rfl).2,(o1.cellAt x (by omega)).trans (nW hx)⟩
theorem oZ {d:Nd}(h:d.ok):d.aca.length<=256/\d.T.length<=256/\∀y∈d.aca,0<=y.2/\y.2<=6:=by
 obtain⟨_,O,hi⟩:=h;refine⟨?_,?_,?_⟩
 ·have:=je hi.sF (a:=0) (b:=256) (λz hz=>by have G:=hi.Ov hz;have O:=cy z.2;omega);omega
 ·have:=je hi.sT (a:=0) (b:=256) (λz hz=>by have G:=hi.inT hz;have O:=cy z.2;omega);omega
 ·intro y hy;have:=hi.oF y hy;unfold zI at this;omega
def sM (x a o:Int):Value:=.agg #[.int .i64 x,.int .i64 a,.int .i64 o]
def CA (x a o:Int):Obj:=.cells #[.int .i64 x,.int .i64 a,.int .i64 o] 293
end Zn
namespace Dz
open Fr Bd Zn
variable {w w':World}{z:Nat}{hi lw mn:Int}{F fm nb:Nat->Nat}{V:Nat->Nd}{fr:Nat->List Nat}
theorem rp {A B b e size n:Nat}{v:Value}{xs:List Value}{LA LB:List Bl}(h:w.ownsRow b e size v n xs)(hA:Mp w A LA)(hB:Mp w B LB)(D:Kept A B w w'):w'.ownsRow b e size v n xs:=by
 have hl:=h.lt;refine⟨h.1,?_⟩;rcases h.2 with O|⟨g,cap,cur,rfl,O,h3,h4⟩
 ·exact ε O
 ·have ne:∀C LC,Mp w C LC->g≠C:=λC LC hC e=>by
   obtain⟨⟨es,clock,G,_⟩,_,_⟩:=hC;rw[<- e,h3]at G;cases G
  exact δ ⟨g,cap,cur,rfl,O,(D.block g (hl g rfl).2 (ne A LA hA) (ne B LB hB)).trans h3,h4⟩
structure DZ (w:World)(z:Nat)(mn lw hi:Int)(k:Nat)(nb fm F:Nat->Nat)(V:Nat->Nd)(fr:Nat->List Nat):Prop where
 m0:w.cell? ⟨z,0,none⟩=some (.int .i64 mn)
 m1:w.cell? ⟨z,1,none⟩=some (.int .i64 lw)
 m2:w.cell? ⟨z,2,none⟩=some (.int .i64 hi)
 cn:∃g c,w.cell? ⟨z,3,none⟩=some (.slice (some ⟨g,0,none⟩) k c)/\w.ownsRow 0 242 1 (.slice (some ⟨g,0,none⟩) k c) k (kW k nb)
 cf:∃g c rows,w.cell? ⟨z,4,none⟩=some (.slice (some ⟨g,0,none⟩) k c)/\w.ownsRow 0 38 1 (.slice (some ⟨g,0,none⟩) k c) k rows/\∀i,i<k->∃h d,rows[i]?=some (.slice (some ⟨h,0,none⟩) k d)/\w.ownsRow 0 3 1 (.slice (some ⟨h,0,none⟩) k d) k (dX (fr i))
 lt:z<w.heap.size
 bd:∀i,i<k->jX w (nb i) (fm i) (F i) (V i).N (V i).aca (V i).T
 ok:∀i,i<k->(V i).ok
 ne:∀i j,i<k->j<k->i≠j->fm i≠fm j/\F i≠F j/\fm i≠F j
 fl:∀i,i<k->(fr i).length=k/\∀j∈fr i,j<k
 tz:Tag w z 241
 tb:∀i,i<k->Tag w (nb i) 327
theorem DZ.b {k:Nat}(h:DZ w z mn lw hi k nb fm F V fr)(J:Below w.heap.size w w'):DZ w' z mn lw hi k nb fm F V fr:=by
 have hl:=h.lt;obtain⟨g,c,e1,o1⟩:=h.cn;obtain⟨g2,c2,rows,e2,o2,r2⟩:=h.cf;refine⟨(J.cell (p:=⟨z,0,none⟩) hl).trans h.m0,(J.cell (p:=⟨z,1,none⟩) hl).trans h.m1,(J.cell (p:=⟨z,2,none⟩) hl).trans h.m2,⟨g,c,(J.cell (p:=⟨z,3,none⟩) hl).trans e1,aN o1 J⟩,⟨g2,c2,rows,(J.cell (p:=⟨z,4,none⟩) hl).trans e2,aN o2 J,λi hi=>?_⟩,ι hl J.size,λi hi=>(h.bd i hi).b J,h.ok,h.ne,h.fl,h.tz.b J,λi hi=>(h.tb i hi).b J⟩;obtain⟨h',d,e3,o3⟩:=r2 i hi;exact⟨h',d,e3,aN o3 J⟩
theorem DZ.turn {k:Nat}(h:DZ w z mn lw hi k nb fm F V fr){x:Nat}(hx:x<k)(D:Kept (fm x) (F x) w w'){d:Nd}(hd:jX w' (nb x) (fm x) (F x) d.N d.aca d.T)(eH:d.ok):DZ w' z mn lw hi k nb fm F (up V x d) fr:=by
 have hF:=(h.bd x hx).f;have hT:=(h.bd x hx).t;obtain⟨g,c,e1,o1⟩:=h.cn;obtain⟨g2,c2,rows,e2,o2,r2⟩:=h.cf;refine⟨dA h.m0 hF hT D,dA h.m1 hF hT D,dA h.m2 hF hT D,⟨g,c,dA e1 hF hT D,rp o1 hF hT D⟩,⟨g2,c2,rows,dA e2 hF hT D,rp o2 hF hT D,λi hi=>?_⟩,ι h.lt D.size,λi hi=>?_,λi hi=>?_,h.ne,h.fl,h.tz.blk (D.block z h.lt (jO h.m0 hF) (jO h.m0 hT)),λi hi=>(h.tb i hi).blk (D.block _ (h.bd i hi).lt (jO (h.bd i hi).c0 hF) (jO (h.bd i hi).c0 hT))⟩
 ·obtain⟨h',d',e3,o3⟩:=r2 i hi;exact⟨h',d',e3,rp o3 hF hT D⟩
 ·by_cases e:i=x
  ·subst e;rw[gJ];exact hd
  ·rw[fj _ _ e];have Gr:=h.bd i hi;have n1:=h.ne i x hi hx e;have n2:=h.ne x i hx hi (cV e);exact Gr.blk D.size (D.block _ Gr.lt (jO Gr.c0 hF) (jO Gr.c0 hT)) (D.block _ Gr.f.lt n1.1 n1.2.2) (D.block _ Gr.t.lt (cV n2.2.2) n1.2.1)
 ·by_cases e:i=x
  ·subst e;rw[gJ];exact eH
  ·rw[fj _ _ e];exact h.ok i hi
theorem DZ.node {k:Nat}(h:DZ w z mn lw hi k nb fm F V fr){x:Nat}(hx:x<k):∃g c,w.cell? ⟨z,3,none⟩=some (.slice (some ⟨g,0,none⟩) k c)/\g<w.heap.size/\w.cell? ⟨g,x,none⟩=some (ptr (nb x)):=by
 obtain⟨g,c,e1,o1⟩:=h.cn;exact⟨g,c,e1,(o1.lt g rfl).2,(o1.cellAt x (by omega)).trans (nW hx)⟩
theorem DZ.from {k:Nat}(h:DZ w z mn lw hi k nb fm F V fr){x:Nat}(hx:x<k):∃g c h' d,w.cell? ⟨z,4,none⟩=some (.slice (some ⟨g,0,none⟩) k c)/\w.cell? ⟨g,x,none⟩=some (.slice (some ⟨h',0,none⟩) k d)/\h'<w.heap.size/\∀j,j<k->w.cell? ⟨h',j,none⟩=some (.int .i64 (((fr x).getD j 0:Nat):Int)):=by
 obtain⟨g2,c2,rows,e2,o2,r2⟩:=h.cf;obtain⟨h',d,e3,o3⟩:=r2 x hx;refine⟨g2,c2,h',d,e2,(o2.cellAt x (by omega)).trans e3,(o3.lt h' rfl).2,λj E=>?_⟩;rw[o3.cellAt j (by omega)];have hl:=(h.fl x hx).1;simp[dX,List.getElem?_eq_getElem (show j<(fr x).length by omega),List.getD_eq_getElem?_getD]
theorem vt (z:Nat)(mn lw hi:Int)(k:Nat)(nb fm F:Nat->Nat)(V:Nat->Nd)(fr:Nat->List Nat)(x:Int)(w:World)(h:DZ w z mn lw hi k nb fm F V fr):
  Calls prog 221 #[ptr z,.int .i64 x] w λev w'=>ev=.returned (.bool (decide (0<=x/\x<k)))/\w'=w:=by
 obtain⟨g,c,e1,o1⟩:=h.cn;clear h o1;unfold ptr;by_cases h0:0<=x
 ·have d0:decide (0<=x)=true:=by simpa using h0
  have dd:decide (0<=x/\x<k)=decide (x<k):=by simp[h0]
  rw[dd];go_enter func221,ntmps221;go_wp2;go_ret;exact⟨rfl,rfl⟩
 ·have d0:decide (0<=x)=false:=by simpa using h0
  have dd:decide (0<=x/\x<k)=false:=by simp[h0]
  rw[dd];go_enter func221,ntmps221;go_wp2;go_ret;exact⟨rfl,rfl⟩
theorem xy (b fm F:Nat)(N:Int)(aca T:List Bl)(w:World)(h:jX w b fm F N aca T):
  Calls prog 204 (#[ptr b] ++ #[]) w λev w'=>ev=.returned (.int .i64 (fS aca))/\Below w.heap.size w w':=by
 have H:=I (zZ b fm F N aca T w h);clear h;unfold ptr at*;simp only[Array.append_empty];go_enter func204,ntmps204;go_wp2_with fail;refine(Z H).mono ?_;rintro ev w'⟨rfl,J⟩;go_wp2_with fail;go_ret;exact⟨rfl,J⟩
theorem aap:∀args w,(callFunc 204 args).run prog w=.ok (.enter 204 args) w:=fy func204 (by kernel_rfl) rfl
theorem xz (z:Nat)(mn lw hi:Int)(k:Nat)(nb fm F:Nat->Nat)(V:Nat->Nd)(fr:Nat->List Nat)(x:Int)(fv:Value)(w:World)(e:Nat->Addr)(he:kO w e)(h:DZ w z mn lw hi k nb fm F V fr)(hx:¬(0<=x/\x<k)):
  Calls prog 203 #[ptr z,.int .i64 x,fv] w λev w'=>ev=.returned (.tuple #[.int .i64 0,bc (e 1)])/\Below w.heap.size w w':=by
 have H:=vt z mn lw hi k nb fm F V fr x w h;rw[show decide (0<=x/\x<k)=false by simpa using hx]at H;have H:=I H;have hE:=he.bound;clear h he hx;unfold ptr bc at*;go_enter func203,ntmps203;go_wp2_with fail;refine(Z H).mono ?_;rintro ev w'⟨rfl,rfl⟩;go_wp2_with fail;go_quiet (fail);go_wp2;go_ret2;exact⟨rfl,iB (γ _ _) _⟩
theorem Mn (z:Nat)(mn lw hi:Int)(k:Nat)(nb fm F:Nat->Nat)(V:Nat->Nd)(fr:Nat->List Nat)(x:Nat)(f:Nat)(lb:Array Value)(ef:∀args w,(callFunc f args).run prog w=.ok (.enter f args) w)(R:Value->World->Prop)(w:World)(h:DZ w z mn lw hi k nb fm F V fr)(hx:x<k)
  (hp:Calls prog f (#[ptr (nb x)]++lb) w λev w'=>∃r,ev=.returned r/\R r w'/\Below w.heap.size w w'):
  Calls prog 203 #[ptr z,.int .i64 x,.func (.func f) #[] lb] w λev w'=>∃r,ev=.returned (.tuple #[r,.nilIface])/\R r w'/\Below w.heap.size w w':=by
 have H:=vt z mn lw hi k nb fm F V fr x w h;rw[show decide ((0:Int)<=(x:Int)/\(x:Int)<k)=true by simp;omega]at H;have H:=I H;obtain⟨g,c,c1,_,c2⟩:=h.node hx;have sN:(x:Int)<k:=by omega
 have hx0:(0:Int)<=x:=by omega
 have HP:=I hp;clear h hp;unfold ptr at*;go_enter func203,ntmps203;go_wp2_with fail;refine(Z H).mono ?_;rintro ev w'⟨rfl,rfl⟩;go_wp2_with (go_at_fn f;refine(Z HP).mono ?_;rintro ev w2⟨r,rfl,hR,J⟩);go_ret2;exact⟨_,rfl,hR,J⟩
theorem EF (z:Nat)(mn lw hi:Int)(k:Nat)(nb fm F:Nat->Nat)(V:Nat->Nd)(fr:Nat->List Nat)(x:Int)(w:World)(e:Nat->Addr)(he:kO w e)(h:DZ w z mn lw hi k nb fm F V fr)(hx:¬(0<=x/\x<k)):
  Calls prog 149 #[ptr z,.int .i64 x] w λev w'=>ev=.returned (.tuple #[.int .i64 0,bc (e 1)])/\Below w.heap.size w w':=by
 have H:=I (xz z mn lw hi k nb fm F V fr x (.func (.func 204) #[] #[]) w e he h hx);clear h he hx;unfold ptr bc at*;go_enter func149,ntmps149;go_wp2_with fail;refine(Z H).mono ?_;rintro ev w'⟨rfl,J⟩;go_wp2_with fail;go_ret2;exact⟨rfl,J⟩
theorem Hy (z:Nat)(mn lw hi:Int)(k:Nat)(nb fm F:Nat->Nat)(V:Nat->Nd)(fr:Nat->List Nat)(x:Nat)(w:World)(h:DZ w z mn lw hi k nb fm F V fr)(hx:x<k):
  Calls prog 149 #[ptr z,.int .i64 x] w λev w'=>ev=.returned (.tuple #[.int .i64 (fS (V x).aca),.nilIface])/\Below w.heap.size w w':=by
 have H:=I (Mn z mn lw hi k nb fm F V fr x 204 #[] aap (λr _=>r=.int .i64 (fS (V x).aca)) w h hx ((xy _ _ _ _ _ _ w (h.bd x hx)).mono λev w' hh=>⟨_,hh.1,rfl,hh.2⟩));clear h hx;generalize fS (V x).aca=v at*;unfold ptr at*;go_enter func149,ntmps149;go_wp2_with fail;refine(Z H).mono ?_;rintro ev w'⟨r,rfl,rfl,J⟩;go_wp2_with fail;go_ret2;exact⟨rfl,J⟩
end Dz
namespace Sb
open Fr Bd Zn Dz
def Vz (a b:Int):Int:=if a=0 then b else a
theorem VA (vb c : Nat) (a b : Int) (w : World) (h0 : w.cell? ⟨vb, 0, none⟩ = some (.int .i64 a)) (G : w.cell? ⟨vb, 1, none⟩ = some (.int .i64 b)) :
    Calls prog 233 #[.slice (some ⟨vb, 0, none⟩) 2 c] w fun ev w' => ev = .returned (.int .i64 (Vz a b)) ∧ w' = w := by
  unfold Vz
  go_enter func233, ntmps233
  go_wp2_with fail
  go_loopw [8] (fun s wr => ∃ i : Nat, s = .int .i64 i ∧ i ≤ 2 ∧ wr = w ∧ (1 ≤ i → a = 0) ∧ (2 ≤ i → b = 0)) (fun s _ => 2 - (intOf s).toNat)
  case atStart => exact ⟨0, rfl, by omega, rfl, by omega, by omega⟩
  case round =>
    obtain ⟨i, rfl, hi, rfl, ha, J⟩ := hrel
    rcases (show i = 0 ∨ i = 1 ∨ i = 2 by omega) with rfl | rfl | rfl
    · by_cases h : a = 0
      · subst h
        go_wp2
        go_roundw
        case rel => exact ⟨1, by go_num, by omega, by simp⟩
        case measure => simp [intOf]
      · have d : (a != 0) = true := by simpa using h
        go_wp2
        go_ret
        exact ⟨by simp, rfl⟩
    · have ha := ha (by omega)
      subst ha
      by_cases h : b = 0
      · subst h
        go_wp2
        go_roundw
        case rel => exact ⟨2, by go_num, by omega, by simp⟩
        case measure => simp [intOf]
      · have d : (b != 0) = true := by simpa using h
        go_wp2
        go_ret
        exact ⟨by simp, rfl⟩
    · have ha := ha (by omega)
      have J := J (by omega)
      subst ha J
      go_wp2
      go_ret
      exact ⟨by simp, rfl⟩
theorem Mx (b:Nat)(n0 a0 x a o:Int)(w:World)(h0:w.cell? ⟨b,0,none⟩=some (.int .i64 n0))(G:w.cell? ⟨b,1,none⟩=some (.int .i64 a0)):
  Calls prog 232 (#[ptr b,sM x a o] ++ #[]) w λev w'=>ev=.returned (.int .i64 (Vz (jf n0 x) (jf a0 a)))/\Below w.heap.size w w':=by
 have J:=aa w _ h0;simp only at J;have F1:=χ (γ w.heap.size w) (CA x a o);have k0:=(F1.cell (p:=⟨b,0,none⟩) J).trans h0;have k1:=(F1.cell (p:=⟨b,1,none⟩) J).trans G;have q0:=θ w #[.int .i64 x,.int .i64 a,.int .i64 o] 293 0;have q1:=θ w #[.int .i64 x,.int .i64 a,.int .i64 o] 293 1;simp only[Δ,υ,ω]at q0 q1;have HC:=I mZ;have HO:=I VA;clear h0 G;have HB:=I F1;clear F1;unfold ptr sM CA at*;rw[Array.append_empty];go_enter func232,ntmps232;go_upto_region 1 with(fail);generalize hW:w.alloc (.cells #[.int .i64 x,.int .i64 a,.int .i64 o] 293)=W at*;generalize hp:w.heap.size=Y at*;go_region_held3 (λw'=>w'.cell? ⟨b,0,none⟩=some (.int .i64 n0)/\w'.cell? ⟨b,1,none⟩=some (.int .i64 a0)/\w'.cell? ⟨Y,0,none⟩=some (.int .i64 x)/\w'.cell? ⟨Y,1,none⟩=some (.int .i64 a)) (go_keep) ((first|(go_at_call 199;refine((Z HC) _ _ _).mono ?_;rintro ev w3⟨rfl,rfl⟩)|(go_at_call 233;refine((Z HO) _ _ (jf n0 x) (jf a0 a) _ (θ _ _ _ 0) (θ _ _ _ 1)).mono ?_;rintro ev w3⟨rfl,rfl⟩)));go_wp2;go_ret;exact⟨rfl,(χ (by rw[<- hp]at HB;exact Z HB) _).drew⟩
def cm (s:Sl)(x a:Int):Int:=Vz (jf s.V x) (jf s.at_ a)
def tW (w:World)(q:Option Addr)(n:Nat)(B:Nat->Nat)(X:Nat->Sl):Prop:=∀i,i<n->∃g,q=some ⟨g,0,none⟩/\g<w.heap.size/\w.cell? ⟨g,i,none⟩=some (ptr (B i))/\B i<w.heap.size/\w.cell? ⟨B i,0,none⟩=some (.int .i64 (X i).V)/\w.cell? ⟨B i,1,none⟩=some (.int .i64 (X i).at_)
theorem tW.b {w w':World}{q:Option Addr}{n:Nat}{B:Nat->Nat}{X:Nat->Sl}(h:tW w q n B X)(J:Below w.heap.size w w'):tW w' q n B X:=λi hi=>by
 obtain⟨g,e,G,O,h3,h4,h5⟩:=h i hi;exact⟨g,e,ι G J.size,(J.cell (p:=⟨g,i,none⟩) G).trans O,ι h3 J.size,(J.cell (p:=⟨B i,0,none⟩) h3).trans h4,(J.cell (p:=⟨B i,1,none⟩) h3).trans h5⟩
theorem xH (b:Nat)(s:Sl)(x a o:Int)(w:World)(h0:w.cell? ⟨b,0,none⟩=some (.int .i64 s.V))(G:w.cell? ⟨b,1,none⟩=some (.int .i64 s.at_)):
  Calls prog 232 (#[.pointer (some ⟨b,0,none⟩),.agg #[.int .i64 x,.int .i64 a,.int .i64 o]] ++ #[]) w λev w'=>ev=.returned (.int .i64 (cm s x a))/\Below w.heap.size w w':=Mx b s.V s.at_ x a o w h0 G
def BsR (x a:Int)(X:Nat->Sl)(n:Nat)(w:World)(ev:Ending)(w':World):Prop:=∃(k:Nat) (f:Bool),ev=.returned (.tuple #[.int .i64 k,.bool f])/\(k<=n/\(∀t,t<k->cm (X t) x a<0)/\∀t,k<=t->t<n->0<=cm (X t) x a)/\Below w.heap.size w w'
theorem VB (q:Option Addr)(n c:Nat)(B:Nat->Nat)(X:Nat->Sl)(x a o:Int)(w:World)(hz:tW w q n B X)(hn:n<=100000)(O_:∀i j,i<=j->j<n->cm (X j) x a<0->cm (X i) x a<0):
  Calls prog 231 #[.slice q n c,sM x a o,.func (.func 232) #[] #[]] w λev w'=>BsR x a X n w ev w':=by
 have F1:=χ (γ w.heap.size w) (CA x a o);have q0:=θ w #[.int .i64 x,.int .i64 a,.int .i64 o] 293 0;have q1:=θ w #[.int .i64 x,.int .i64 a,.int .i64 o] 293 1;have q2:=θ w #[.int .i64 x,.int .i64 a,.int .i64 o] 293 2;simp only[Δ,υ,ω]at q0 q1 q2;have HZ:=I hz;have HM:=I O_;have HF:=I F1;clear hz O_ F1;have hsz:(w.alloc (.cells #[.int .i64 x,.int .i64 a,.int .i64 o] 293)).heap.size=w.heap.size+1:=by simp
 unfold sM CA at*;go_enter func231,ntmps231;go_upto_region 1 with(fail);generalize w.alloc (.cells #[.int .i64 x,.int .i64 a,.int .i64 o] 293)=W at*;have HQ:Hid (∀W',Below w.heap.size w W'->Below W.heap.size W W'->W'.cell? ⟨w.heap.size,0,none⟩=some (.int .i64 x)/\W'.cell? ⟨w.heap.size,1,none⟩=some (.int .i64 a)/\W'.cell? ⟨w.heap.size,2,none⟩=some (.int .i64 o)):=λW' _ J =>
  ⟨(J.cell (p:=⟨w.heap.size,0,none⟩) (by rw[hsz];simp)).trans q0,(J.cell (p:=⟨w.heap.size,1,none⟩) (by rw[hsz];simp)).trans q1,(J.cell (p:=⟨w.heap.size,2,none⟩) (by rw[hsz];simp)).trans q2⟩
 clear q0 q1 q2;go_wp2_with fail;go_loopg [9,10] n (λkx s9 Iq wr=>∃lo hi:Nat,s9=.int .i64 lo/\Iq=.int .i64 hi/\lo<=hi/\hi<=n/\hi-lo<=kx/\Hid (Below W.heap.size W wr)/\Hid ((∀t,t<lo->cm (X t) x a<0)/\(∀t,hi<=t->t<n->0<=cm (X t) x a)));case atStart=>exact⟨0,n,rfl,rfl,Γ _,ζ _,by omega,γ _ _,λt ht=>absurd ht (Nat.not_lt_zero _),λt G O=>by omega⟩
 case round =>
  obtain⟨lo,hi,rfl,rfl,hlh,eY,hg,S1,ab0⟩:=hrel;by_cases hlt:lo<hi
  ·obtain⟨g,rfl,sD,c0,hBl,c1,c2⟩:=(Z HZ) ((lo+hi)/2) (by omega);have ab2:Below w.heap.size w wr:=bW (Z HF) (Z S1);obtain⟨b0,b1,b2⟩:=(Z HQ) wr ab2 (Z S1);have HA:=I (λw1 (J:Below wr.heap.size wr w1)=>xH (B ((lo+hi)/2)) (X ((lo+hi)/2)) x a o w1 ((J.cell (p:=⟨B ((lo+hi)/2),0,none⟩) (ι hBl ab2.size)).trans ((ab2.cell (p:=⟨B ((lo+hi)/2),0,none⟩) hBl).trans c1)) ((J.cell (p:=⟨B ((lo+hi)/2),1,none⟩) (ι hBl ab2.size)).trans ((ab2.cell (p:=⟨B ((lo+hi)/2),1,none⟩) hBl).trans c2)));have e0:=(ab2.cell (p:=⟨g,(lo+hi)/2,none⟩) sD).trans c0;have hgr:g<wr.heap.size:=ι sD ab2.size;have hbr:w.heap.size<wr.heap.size:=by have:=(Z S1).size;rw[hsz]at this;omega
   have HK:=I (λw1 (J:Below wr.heap.size wr w1)=>(⟨(J.cell (p:=⟨g,(lo+hi)/2,none⟩) hgr).trans e0,(J.cell (p:=⟨w.heap.size,0,none⟩) hbr).trans b0,(J.cell (p:=⟨w.heap.size,1,none⟩) hbr).trans b1,(J.cell (p:=⟨w.heap.size,2,none⟩) hbr).trans b2⟩:w1.cell? ⟨g,(lo+hi)/2,none⟩=some (ptr (B ((lo+hi)/2)))/\w1.cell? ⟨w.heap.size,0,none⟩=some (.int .i64 x)/\w1.cell? ⟨w.heap.size,1,none⟩=some (.int .i64 a)/\w1.cell? ⟨w.heap.size,2,none⟩=some (.int .i64 o)));clear c0 c1 c2 hBl;have abk:((lo:Int)+(hi:Int))/2=(((lo+hi)/2:Nat):Int):=by omega
   have YF:(0:Int)<=(((lo+hi)/2:Nat):Int):=by omega
   have su:((((lo+hi)/2:Nat):Int))<n:=by omega
   have abF:lo<=(lo+hi)/2:=by omega
   have abG:(lo+hi)/2<hi:=by omega
   generalize hmd:(lo+hi)/2=md at*;generalize hy:cm (X md) x a=y at*;generalize B md=bm at*;have HY:=I hy;have HMD:=I hmd;clear hy hmd;unfold ptr at*;go_wp2_with fail;go_region_held3 (λw'=>w'.cell? ⟨g,md,none⟩=some (.pointer (some ⟨bm,0,none⟩))/\w'.cell? ⟨w.heap.size,0,none⟩=some (.int .i64 x)/\w'.cell? ⟨w.heap.size,1,none⟩=some (.int .i64 a)/\w'.cell? ⟨w.heap.size,2,none⟩=some (.int .i64 o)) ((first|(go_keep;done)|(exact(Z HK) _ (by assumption)))) ((go_at_call 232;refine((Z HA) _ (dw wr)).mono ?_;rintro ev w3⟨rfl,b3⟩;have f3:Below wr.heap.size wr w3:=bd b3));have S3:=I (bW (Z S1) f3);clear HA HK b0 b1 b2 e0 ab2 b3 f3;by_cases hyx:y<0
   ·have I2:Hid ((∀t,t<md+1->cm (X t) x a<0)/\(∀t,hi<=t->t<n->0<=cm (X t) x a)):=⟨λt ht=>(Z HM) t md (by omega) (by omega) (by rw[Z HY];exact hyx),(Z ab0).2⟩;go_wp2;go_roundg (hi-(md+1));case measure=>omega
    case rel=>exact⟨md+1,hi,by go_num,rfl,by omega,eY,ζ _,S3,I2⟩
   ·have I2:Hid ((∀t,t<lo->cm (X t) x a<0)/\(∀t,md<=t->t<n->0<=cm (X t) x a)):=⟨(Z ab0).1,λt ht EM=>eu.1 λK=>by have:=(Z HM) md t ht EM K;rw[Z HY]at this;exact hyx this⟩;go_wp2;go_roundg (md-lo);case measure=>omega
    case rel=>exact⟨lo,md,rfl,rfl,by omega,by omega,ζ _,S3,I2⟩
  ·obtain rfl:hi=lo:=by omega
   have qF:Hid (∀(f:Bool) w',Below wr.heap.size wr w'->BsR x a X n w (.returned (.tuple #[.int .i64 (hi:Int),.bool f])) w'):=λf w' J=>⟨hi,f,rfl,⟨eY,(Z ab0).1,(Z ab0).2⟩,bW (bW (Z HF) (Z S1)) J⟩;by_cases hn':hi<n
   ·obtain⟨g,rfl,sD,c0,hBl,c1,c2⟩:=(Z HZ) hi hn';have ab2:Below w.heap.size w wr:=bW (Z HF) (Z S1);obtain⟨b0,b1,b2⟩:=(Z HQ) wr ab2 (Z S1);have HA:=I (λw1 (J:Below wr.heap.size wr w1)=>xH (B hi) (X hi) x a o w1 ((J.cell (p:=⟨B hi,0,none⟩) (ι hBl ab2.size)).trans ((ab2.cell (p:=⟨B hi,0,none⟩) hBl).trans c1)) ((J.cell (p:=⟨B hi,1,none⟩) (ι hBl ab2.size)).trans ((ab2.cell (p:=⟨B hi,1,none⟩) hBl).trans c2)));have e0:=(ab2.cell (p:=⟨g,hi,none⟩) sD).trans c0;have hgr:g<wr.heap.size:=ι sD ab2.size;have hbr:w.heap.size<wr.heap.size:=by have:=(Z S1).size;rw[hsz]at this;omega
    have HK:=I (λw1 (J:Below wr.heap.size wr w1)=>(⟨(J.cell (p:=⟨g,hi,none⟩) hgr).trans e0,(J.cell (p:=⟨w.heap.size,0,none⟩) hbr).trans b0,(J.cell (p:=⟨w.heap.size,1,none⟩) hbr).trans b1,(J.cell (p:=⟨w.heap.size,2,none⟩) hbr).trans b2⟩:w1.cell? ⟨g,hi,none⟩=some (ptr (B hi))/\w1.cell? ⟨w.heap.size,0,none⟩=some (.int .i64 x)/\w1.cell? ⟨w.heap.size,1,none⟩=some (.int .i64 a)/\w1.cell? ⟨w.heap.size,2,none⟩=some (.int .i64 o)));clear c0 c1 c2 hBl;have YF:(0:Int)<=(hi:Int):=by omega
    have su:(hi:Int)<n:=by omega
    generalize cm (X hi) x a=y at*;generalize B hi=bm at*;unfold ptr at*;go_wp2_with fail;go_region_held3 (λw'=>w'.cell? ⟨g,hi,none⟩=some (.pointer (some ⟨bm,0,none⟩))/\w'.cell? ⟨w.heap.size,0,none⟩=some (.int .i64 x)/\w'.cell? ⟨w.heap.size,1,none⟩=some (.int .i64 a)/\w'.cell? ⟨w.heap.size,2,none⟩=some (.int .i64 o)) ((first|(go_keep;done)|(exact(Z HK) _ (by assumption)))) ((go_at_call 232;refine((Z HA) _ (dw wr)).mono ?_;rintro ev w3⟨rfl,b3⟩;have f3:Below wr.heap.size wr w3:=bd b3));go_wp2;go_ret2;exact(Z qF) _ _ f3
   ·have su:decide ((hi:Int)<n)=false:=by simp;omega
    go_wp2_with fail;go_quiet (fail);go_wp2;go_ret2;exact(Z qF) _ _ (iB (γ _ _) _)
end Sb
namespace Zn
open Fr Bd
variable {w w':World}{e n size z:Nat}{hi lw mn:Int}{v v5 v6:Value}{xs:List Value}
def kR (P:Nat->Int)(i:Nat):Nd:=⟨P i,cv 0 (P i),[]⟩
theorem vA {P:Nat->Int}{i:Nat}(G:1<=P i)(O:P i<=256):(kR P i).ok:=⟨G,O,GQ _ (by show(0:Int)<=P i;omega)⟩
theorem ME:(prog.info? 253).map (λi=>(i.zero,i.size,i.bytes))=some (some (.pointer none),1,8):=by kernel_rfl
structure ZB (w:World)(z:Nat)(mn lw hi:Int)(v5 v6:Value):Prop where
 c2:w.cell? ⟨z,2,none⟩=some (.int .i64 mn)
 c3:w.cell? ⟨z,3,none⟩=some (.int .i64 lw)
 c4:w.cell? ⟨z,4,none⟩=some (.int .i64 hi)
 c5:w.cell? ⟨z,5,none⟩=some v5
 c6:w.cell? ⟨z,6,none⟩=some v6
 ff:∀o,w.frozen? ⟨z,o,none⟩=false
 tg:Tag w z 252
theorem ZB.b (h:ZB w z mn lw hi v5 v6)(J:Below w.heap.size w w'):ZB w' z mn lw hi v5 v6 :=
 have hl:=h.tg.lt
 ⟨(J.cell (p:=⟨z,2,none⟩) hl).trans h.c2,(J.cell (p:=⟨z,3,none⟩) hl).trans h.c3,(J.cell (p:=⟨z,4,none⟩) hl).trans h.c4,(J.cell (p:=⟨z,5,none⟩) hl).trans h.c5,(J.cell (p:=⟨z,6,none⟩) hl).trans h.c6,λo=>(J.frozen (p:=⟨z,o,none⟩) hl).trans (h.ff o),h.tg.b J⟩
theorem ZB.bn {N:Nat}(h:ZB w z mn lw hi v5 v6)(J:Below N w w')(hN:z<N):ZB w' z mn lw hi v5 v6 :=
 ⟨(J.cell (p:=⟨z,2,none⟩) hN).trans h.c2,(J.cell (p:=⟨z,3,none⟩) hN).trans h.c3,(J.cell (p:=⟨z,4,none⟩) hN).trans h.c4,(J.cell (p:=⟨z,5,none⟩) hN).trans h.c5,(J.cell (p:=⟨z,6,none⟩) hN).trans h.c6,λo=>(J.frozen (p:=⟨z,o,none⟩) hN).trans (h.ff o),h.tg.blk (J.block z hN)⟩
theorem ZB.p5 (h:ZB w z mn lw hi v5 v6)(v:Value):ZB (w.setCell ⟨z,5,none⟩ v) z mn lw hi v v6 :=
 ⟨(bu (by simp)).trans h.c2,(bu (by simp)).trans h.c3,(bu (by simp)).trans h.c4,fK h.c5,(bu (by simp)).trans h.c6,λo=>by simp only[Ψ];exact h.ff o,h.tg.set _ _⟩
theorem ZB.p6 (h:ZB w z mn lw hi v5 v6)(v:Value):ZB (w.setCell ⟨z,6,none⟩ v) z mn lw hi v5 v :=
 ⟨(bu (by simp)).trans h.c2,(bu (by simp)).trans h.c3,(bu (by simp)).trans h.c4,(bu (by simp)).trans h.c5,fK h.c6,λo=>by simp only[Ψ];exact h.ff o,h.tg.set _ _⟩
theorem Re (w:World)(a b:Value)(mn lw hi:Int)(z:Nat)(hz:w.heap.size=z):ZB (w.alloc (.cells #[a,b,.int .i64 mn,.int .i64 lw,.int .i64 hi,.slice none 0 0,.slice none 0 0] 252)) z mn lw hi (.slice none 0 0) (.slice none 0 0):=by
 subst hz;exact⟨by simp,by simp,by simp,by simp,by simp,λo=>by simp,bB _ _ _⟩
theorem jz {b:Nat}(h:w.ownsRow b e size v n xs)(hn:0<n):∃g cap,v=.slice (some ⟨g,0,none⟩) n cap:=by
 rcases h.2 with⟨_,h0⟩|⟨g,cap,cur,hv,_⟩
 ·omega
 ·exact⟨g,cap,hv⟩
theorem tX (i:Nat)(nb:Nat->Nat)(b:Nat):kW (i+1) (up nb i b)=kW i nb++[ptr b]:=by
 unfold kW;rw[List.range_succ,cU];congr 1
 ·apply List.map_congr_left;intro j E;rw[fj _ _ (by have:=fw.1 E;omega)]
 ·simp[up]
theorem tY {b:Nat}(U:w.ownsRow b e size v n xs)(q:w.grownBy w' v.ownBlock):Below w.heap.size w w'\/∃g,Tag w g e/\b<=g/\Kept g g w w':=by
 rcases U.2 with⟨rfl,_⟩|⟨g,cap,cur,rfl,J,hg,_⟩
 ·exact ε ⟨q.os,q.tape,q.output,q.size,λk D=>q.block k D (by simp[Value.ownBlock])⟩
 ·exact δ ⟨g,⟨cur,_,hg⟩,J,⟨q.os,q.tape,q.output,q.size,λk D G _=>q.block k D (by simp[Value.ownBlock];exact G)⟩⟩
theorem xK {b:Nat}(U:w.ownsRow b e size v n xs)(q:w.grownBy w' v.ownBlock)(he:e≠291)(he2:e≠333){c:Nat}{N:Int}{aca T:List Bl}(h:RB w c N aca T):RB w' c N aca T:=by
 rcases tY U q with J|⟨g,ht,_,D⟩
 ·exact h.b J
 ·exact h.keep D (h.tg.ne ht he2.symm) ht he
end Zn
end Go.Proofs.YtcbmfakjfoggaaaGreatDoor
