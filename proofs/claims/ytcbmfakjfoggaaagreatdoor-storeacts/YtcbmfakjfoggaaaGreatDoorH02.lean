/- H02 -/
import Derived.Test.YtcbmfakjfoggaaaGreatDoorA0
namespace Go.Proofs.YtcbmfakjfoggaaaGreatDoor
open Go.RowKit Go.Maps _root_.Go.Proofs.Tryz
namespace Sb
variable {V i j m:Nat}
def pop (x:Nat):Nat->Nat
 |0=>0
 |n+1=>pop x n+(if x.testBit n=true then 1 else 0)
theorem fu (x:Nat):∀n,pop x n<=n
 |0=>ζ _
 |n+1=>by have:=fu x n;simp only[pop];split<;>omega
theorem j8 (r x:Nat)(k:Nat)(hr:r<2^k):∀n,pop (2^k*x+r) (k+n)=pop r k+pop x n
 |0=>by
  have h:∀m,m<=k->pop (2^k*x+r) m=pop r m:=by
   intro m
   induction m with
   |zero=>intro _;rfl
   |succ m ih =>
    intro hm;simp only[pop];have ht:(2^k*x+r).testBit m=r.testBit m:=by rw[dJ _ hr,af (by omega)]
    rw[ih (by omega),ht]
  simpa[pop]using h k (ζ _)
 |n+1=>by
  rw[<- Nat.add_assoc];simp only[pop];have ht:(2^k*x+r).testBit (k+n)=x.testBit n:=by rw[dJ _ hr,ai (by omega),show k+n-k=n by omega]
  rw[j8 r x k hr n,ht,Nat.add_assoc]
theorem lN (k a b c d:Nat)(ha:a<2^k)(K:c<2^k):(2^k*b+a) &&& (2^k*d+c)=2^k*(b &&& d)+(a &&& c):=by
 have hac:a &&& c<2^k:=eM Nat.and_le_left ha;apply Nat.eq_of_testBit_eq;intro i;rw[Nat.testBit_and,dJ _ ha,dJ _ K,dJ _ hac];split
 ·rw[Nat.testBit_and]
 ·rw[Nat.testBit_and]
def mk (k c:Nat):Nat->Nat
 |0=>0
 |n+1=>2^k*mk k c n+c
def f1 (n x:Nat):Nat:=(x/2 &&& mk 4 5 n)+(x &&& mk 4 5 n)
def f2 (n x:Nat):Nat:=(f1 n x/4 &&& mk 4 3 n)+(f1 n x &&& mk 4 3 n)
theorem Ma (n r x:Nat)(hr:r<16):f1 (n+1) (16*x+r)=16*f1 n x+((r/2 &&& 5)+(r &&& 5)):=by
 unfold f1;simp only[mk];have e1:(16*x+r)/2=2^4*(x/2)+(8*(x%2)+r/2):=by omega
 have hs:x%2<2:=by omega
 rw[e1,show(16*x+r)=2^4*x+r by omega,lN 4 _ _ _ _ (by omega) (by omega),lN 4 _ _ _ _ (by omega) (by omega)];have e2:(8*(x%2)+r/2) &&& 5=r/2 &&& 5:=by
  clear e1;generalize x%2=y at*;clear x;revert y;revert r;decide
 rw[e2];omega
theorem vq (n r x:Nat)(hr:r<16):f2 (n+1) (16*x+r)=16*f2 n x+pop r 4:=by
 unfold f2;rw[Ma n r x hr];simp only[mk];generalize f1 n x=y;have hd:(r/2 &&& 5)+(r &&& 5)<16:=by revert r;decide
 have hp:∀t,t<4->((4*t+((r/2 &&& 5)+(r &&& 5))/4) &&& 3)+(((r/2 &&& 5)+(r &&& 5)) &&& 3)=pop r 4:=by clear hd;revert r;decide
 have hp:=hp (y%4) (by omega);generalize(r/2 &&& 5)+(r &&& 5)=d at*;have e1:(16*y+d)/4=2^4*(y/4)+(4*(y%4)+d/4):=by omega
 rw[e1,show(16*y+d)=2^4*y+d by omega,lN 4 _ _ _ _ (by omega) (by omega),lN 4 _ _ _ _ (by omega) (by omega)];omega
def f3 (n y:Nat):Nat:=(y/16+y) &&& mk 8 15 n
theorem Mb (n a b y:Nat)(ha:a<=4)(J:b<=4)(hy:y%16<=4):f3 (n+1) (256*y+16*b+a)=256*f3 n y+(a+b):=by
 unfold f3;simp only[mk];have e1:(256*y+16*b+a)/16+(256*y+16*b+a)=2^8*(y/16+y)+(16*(y%16+b)+(a+b)):=by omega
 rw[e1,lN 8 _ _ _ _ (by omega) (by omega)];have e2:(16*(y%16+b)+(a+b)) &&& 15=a+b:=by
  rw[show(15:Nat)=2^4-1 from rfl,Nat.and_two_pow_sub_one_eq_mod];omega
 rw[e2]
theorem Q0 (n x:Nat):f2 n x%16<=4:=by
 cases n with
 |zero=>simp[f2,f1,mk]
 |succ n =>
  have h:=vq n (x%16) (x/16) (by omega);rw[show 16*(x/16)+x%16=x by omega]at h;have:=fu (x%16) 4;omega
theorem iR (n x:Nat):f3 (n+1) (f2 (2*(n+1)) x)=256*f3 n (f2 (2*n) (x/256))+pop x 8:=by
 have G:=vq (2*n+1) (x%16) (x/16) (by omega);have O:=vq (2*n) (x/16%16) (x/16/16) (by omega);rw[show 16*(x/16)+x%16=x by omega]at G;rw[show 16*(x/16/16)+x/16%16=x/16 by omega]at O;have p1:=fu (x%16) 4;have p2:=fu (x/16%16) 4;have h3:=Mb n _ _ (f2 (2*n) (x/256)) p1 p2 (Q0 _ _);rw[show 2*(n+1)=2*n+1+1 by omega,G,O,show x/16/16=x/256 by omega];rw[show 16*(16*f2 (2*n) (x/256)+pop (x/16%16) 4)+pop (x%16) 4=256*f2 (2*n) (x/256)+16*pop (x/16%16) 4+pop (x%16) 4 by omega,h3];have h4:=j8 (x%16) (x/16) 4 (by omega) 4;have h5:=j8 (x/16%16) (x/256) 4 (by omega) 0;rw[show 2^4*(x/16)+x%16=x by omega]at h4;rw[show 2^4*(x/256)+x/16%16=x/16 by omega]at h5;simp only[pop]at h4 h5 ⊢;omega
theorem jF (x m n:Nat):pop x (m+n)=pop x m+pop (x/2^m) n:=by
 have G:=j8 (x%2^m) (x/2^m) m (Nat.mod_lt _ (Nat.two_pow_pos m)) n;have O:=j8 (x%2^m) (x/2^m) m (Nat.mod_lt _ (Nat.two_pow_pos m)) 0;rw[Nat.div_add_mod]at G O;simp only[pop,gD]at O;omega
theorem aak (x:Nat):∃c0 c1 c2 c3 c4 c5 c6 c7:Nat,c0<=8/\c1<=8/\c2<=8/\c3<=8/\c4<=8/\c5<=8/\c6<=8/\c7<=8 /\
  f3 8 (f2 16 x)=256*(256*(256*(256*(256*(256*(256*c7+c6)+c5)+c4)+c3)+c2)+c1)+c0/\pop x 64=c0+c1+c2+c3+c4+c5+c6+c7:=by
 have s0:=iR 7 x;have s1:=iR 6 (x/256);have s2:=iR 5 (x/256/256);have s3:=iR 4 (x/256/256/256);have s4:=iR 3 (x/256/256/256/256);have s5:=iR 2 (x/256/256/256/256/256);have s6:=iR 1 (x/256/256/256/256/256/256);have s7:=iR 0 (x/256/256/256/256/256/256/256);have z:f3 0 (f2 (2*0) (x/256/256/256/256/256/256/256/256))=0:=by simp[f3,mk]
 have d0:=jF x 8 56;have d1:=jF (x/256) 8 48;have d2:=jF (x/256/256) 8 40;have d3:=jF (x/256/256/256) 8 32;have d4:=jF (x/256/256/256/256) 8 24;have d5:=jF (x/256/256/256/256/256) 8 16;have d6:=jF (x/256/256/256/256/256/256) 8 8;refine⟨pop x 8,pop (x/256) 8,pop (x/256/256) 8,pop (x/256/256/256) 8,pop (x/256/256/256/256) 8,pop (x/256/256/256/256/256) 8,pop (x/256/256/256/256/256/256) 8,pop (x/256/256/256/256/256/256/256) 8,fu _ _,fu _ _,fu _ _,fu _ _,fu _ _,fu _ _,fu _ _,fu _ _,?_,?_⟩
 ·simp only[Nat.reduceAdd,Nat.reduceMul]at s0 s1 s2 s3 s4 s5 s6 s7 z;rw[s0,s1,s2,s3,s4,s5,s6,s7,z];omega
 ·simp only[Nat.reduceAdd,Nat.reducePow]at d0 d1 d2 d3 d4 d5 d6;omega
theorem Hq (x:Nat)(y:Nat)(hy:y=f3 8 (f2 16 x))(y1 y2 y3:Nat)(G:y1=y+y/256)(O:y2=y1+y1/65536)(h3:y3=y2+y2/4294967296):y3%128=pop x 64/\y3<18446744073709551616:=by
 obtain⟨c0,c1,c2,c3,c4,c5,c6,c7,b0,b1,b2,b3,b4,b5,b6,b7,e,p⟩:=aak x;rw[e]at hy;rw[p];clear e p x;have q1:y1=256*(256*(256*(256*(256*(256*(256*c7+(c6+c7))+(c5+c6))+(c4+c5))+(c3+c4))+(c2+c3))+(c1+c2))+(c0+c1):=by omega
 clear G hy;have q2:y2=256*(256*(256*(256*(256*(256*(256*c7+(c6+c7))+(c5+c6+c7))+(c4+c5+c6+c7))+(c3+c4+c5+c6))+(c2+c3+c4+c5))+(c1+c2+c3+c4))+(c0+c1+c2+c3):=by omega
 clear O q1;have q3:y2/4294967296=256*(256*(256*c7+(c6+c7))+(c5+c6+c7))+(c4+c5+c6+c7):=by omega
 rw[q3]at h3;omega
theorem Ae (x i j:Nat):(x||| 2^i).testBit j=(x.testBit j||decide (i=j)):=by rw[Nat.testBit_or,Nat.testBit_two_pow]
theorem Vg (x i j:Nat)(hi:i<64)(hx:x<18446744073709551616):(x &&& (18446744073709551615-2^i)).testBit j=(x.testBit j && !decide (i=j)):=by
 rw[Nat.testBit_and];by_cases E:j<64
 ·have h:=Nat.testBit_two_pow_sub_succ (x:=2^i) (n:=64) (Nat.pow_lt_pow_right (by omega) hi) j;rw[show(2^64-(2^i+1):Nat)=18446744073709551615-2^i by omega]at h;rw[h,Nat.testBit_two_pow];simp[E]
 ·have h:x.testBit j=false:=Nat.testBit_lt_two_pow (ι hx (by rw[show(18446744073709551616:Nat)=2^64 from rfl];exact gz (by omega) (by omega)));simp[h]
theorem Cx (x i:Nat)(hi:x.testBit i=false):∀n,pop (x||| 2^i) n=pop x n+(if i<n then 1 else 0)
 |0=>by simp[pop]
 |n+1=>by
  simp only[pop];rw[Cx x i hi n,Ae];by_cases h:i=n
  ·subst h;simp[hi]
  ·simp only[h,decide_false,Bool.or_false];have h3:i<n+1↔i<n:=by omega
   simp only[h3];omega
theorem iT:∀n,pop 0 n=0
 |0=>rfl
 |n+1=>by simp[pop,iT n]
theorem Af {x:Nat}(hx:x<2^m):∀n,m<=n->pop x n=pop x m:=by
 intro n hn;obtain⟨d,rfl⟩:=Nat.exists_eq_add_of_le hn;rw[jF,Nat.div_eq_of_lt hx,iT];omega
def ff (x:Nat):Nat:=Go.Lib.ctz 64 (18446744073709551615-x)
theorem ky {x:Nat}(hx:x<2^m)(hm:m<=64)(hp:pop x m<m):ff x<m/\x.testBit (ff x)=false/\∀j,j<ff x->x.testBit j=true:=by
 have aal:x<2^64:=ι hx (gz (by omega) hm);have htb:∀j,j<64->(18446744073709551615-x).testBit j = !x.testBit j:=by
  intro j E;have h:=Nat.testBit_two_pow_sub_succ (x:=x) (n:=64) aal j;rw[show(2^64-(x+1):Nat)=18446744073709551615-x by omega]at h;rw[h];simp[E]
 have hne:18446744073709551615-x≠0:=by
  intro h0;have hall:∀j,j<m->x.testBit j=true:=by
   intro j E;have:=htb j (by omega);rw[h0,fx]at this;simpa using this.symm
  have:∀n,n<=m->pop x n=n:=by
   intro n
   induction n with
   |zero=>intro _;rfl
   |succ n ih=>intro hn;simp only[pop];rw[ih (by omega),hall n (by omega)];simp
  have:=this m (ζ _);omega
 obtain⟨q,hq,D⟩:=Go.Lib.ctzFrom_spec 64 (18446744073709551615-x) (by omega) (by omega);have e:ff x=Go.Lib.ctzFrom 64 (18446744073709551615-x):=by simp[ff,Go.Lib.ctz,hne]
 rw[<- e]at hq D;have G:x.testBit (ff x)=false:=by
  have:=htb (ff x) D;rw[hq,Nat.testBit_two_pow_mul]at this;simpa[Nat.testBit_zero]using this
 have O:∀j,j<ff x->x.testBit j=true:=by
  intro j E;have:=htb j (by omega);rw[hq,Nat.testBit_two_pow_mul,show decide (j>=ff x)=false by simp;omega]at this;simpa using this.symm
 refine⟨?_,G,O⟩;rcases bC (ff x) m with h|h
 ·exact h
 ·exfalso;have:∀n,n<=m->pop x n=n:=by
   intro n
   induction n with
   |zero=>intro _;rfl
   |succ n ih=>intro hn;simp only[pop];rw[ih (by omega),O n (by omega)];simp
  have:=this m (ζ _);omega
theorem Hr {x:Nat}(hx:x<2^m)(hi:i<m):x||| 2^i<2^m:=Nat.or_lt_two_pow hx (Nat.pow_lt_pow_right (by omega) hi)
theorem Md (x i:Nat):x/2^i%2=if x.testBit i=true then 1 else 0:=by
 rw[Nat.testBit_eq_decide_div_mod_eq];simp only[dh];split<;>omega
structure Sl where
 V:Nat
 at_:Int
 bm:Nat
instance:Inhabited Sl:=⟨⟨0,0,0⟩⟩
def dK (m V:Nat)(Q:List Sl):Nat->Option Nat×Int
 |0=>(none,-1)
 |i+1=>if(Q.getD i default).V=V/\pop (Q.getD i default).bm m<m/\(dK m V Q i).2<(pop (Q.getD i default).bm m:Int)then(some i,(pop (Q.getD i default).bm m:Int))else dK m V Q i
theorem getD_at {α : Type}{l:List α}{x d : α}(h:l[i]?=some x):l.getD i d=x:=by simp[List.getD_eq_getElem?_getD,h]
theorem iP {Q:List Sl}:∀{i:Nat},(dK m V Q i).1=some j->j<i/\(Q.getD j default).V=V/\pop (Q.getD j default).bm m<m
 |0,h=>by simp[dK]at h
 |i+1,h=>by
  simp only[dK]at h;split at h
  ·rename_i hh;simp only[τ]at h;subst h;exact⟨by omega,hh.1,hh.2.1⟩
  ·obtain⟨G,O⟩:=iP h;exact⟨by omega,O⟩
theorem Cy (m V:Nat)(Q:List Sl):∀i,((dK m V Q i).1=none/\(dK m V Q i).2 = -1)\/(∃j,(dK m V Q i).1=some j/\0<=(dK m V Q i).2)
 |0=>ε ⟨rfl,rfl⟩
 |i+1=>by
  simp only[dK];split
  ·exact δ ⟨i,rfl,by simp⟩
  ·exact Cy m V Q i
theorem Ag (m V:Nat)(Q:List Sl):∀i,-1<=(dK m V Q i).2/\(dK m V Q i).2<=m
 |0=>by simp[dK]
 |i+1=>by
  simp only[dK];split
  ·rename_i hh;simp only;omega
  ·exact Ag m V Q i
theorem nQ {Q:List Sl}:∀{i:Nat},(dK m V Q i).1=none->∀j,j<i->(Q.getD j default).V=V->¬pop (Q.getD j default).bm m<m
 |0,_,j,E,_=>by omega
 |i+1,h,j,E,hn=>by
  simp only[dK]at h;split at h
  ·cases h
  ·rename_i hh;by_cases e:j=i
   ·subst e;intro hp;rcases Cy m V Q j with⟨_,O⟩|⟨j',G,_⟩
    ·exact hh ⟨hn,hp,by rw[O];omega⟩
    ·rw[h]at G;cases G
   ·exact nQ h j (by omega) hn
def lt (s:Sl)(V:Nat)(a:Int):Prop:=s.V<V\/(s.V=V/\s.at_<a)
instance (s:Sl) (V:Nat) (a:Int):Decidable (lt s V a):=by unfold lt;infer_instance
def Sorted (Q:List Sl):Prop:=Q.Pairwise λa b=>lt a b.V b.at_
def Pos (Q:List Sl)(V:Nat)(a:Int)(k:Nat):Prop:=k<=Q.length/\(∀t s,t<k->Q[t]?=some s->lt s V a)/\∀t s,k<=t->Q[t]?=some s->¬lt s V a
theorem Pos.uniq {Q:List Sl}{a:Int}{k k':Nat}(h:Pos Q V a k)(h':Pos Q V a k'):k=k':=by
 rcases eX k k' with hl|hl|hl
 ·exfalso;have D:k<Q.length:=by have:=h'.1;omega
  exact h.2.2 k _ (ζ _) (ξ D) (h'.2.1 k _ hl (ξ D))
 ·exact hl
 ·exfalso;have D:k'<Q.length:=by have:=h.1;omega
  exact h'.2.2 k' _ (ζ _) (ξ D) (h.2.1 k' _ hl (ξ D))
theorem lt_trans {s t:Sl}{a:Int}(h:lt s t.V t.at_)(h':lt t V a):lt s V a:=by
 unfold lt at*;omega
theorem sorted_at {Q:List Sl}(h:Sorted Q){s t:Sl}(hi:Q[i]?=some s)(E:Q[j]?=some t)(Ec:i<j):lt s t.V t.at_:=by
 obtain⟨hi',rfl⟩:=ν.mp hi;obtain⟨hj',rfl⟩:=ν.mp E;exact cO.mp h i j hi' hj' Ec
def ins {α : Type}(l:List α)(k:Nat)(x : α):List α:=l.take k++x::l.drop k
theorem ek {α : Type}(l:List α)(k:Nat)(x : α):(ins l k x).length=l.length+1:=by simp[ins];omega
theorem Me {α β : Type}(f : α->β)(l:List α)(k:Nat)(x : α):(ins l k x).map f=ins (l.map f) k (f x):=by simp[ins,List.map_take,List.map_drop]
theorem cF {α : Type}{l:List α}{k:Nat}(x : α)(D:k<=l.length)(j:Nat):(ins l k x)[j]?=if j<k then l[j]? else if j=k then some x else l[j-1]?:=by
 unfold ins;have hl:(l.take k).length=k:=by simp;omega
 by_cases G:j<k
 ·rw[af G,ar (by omega),gQ G]
 ·rw[ai G,aq (by omega),hl];by_cases O:j=k
  ·subst O;simp
  ·rw[ai O];obtain⟨d,rfl⟩:∃d,j=k+1+d:=⟨j-k-1,by omega⟩;rw[show k+1+d-k=d+1 by omega,ω,cP];congr 1;omega
theorem nV {α : Type}{l:List α}{k:Nat}{x y : α}:y∈ins l k x↔y=x\/y∈l:=by
 unfold ins;simp only[aC,ae];constructor
 ·rintro(h|h|h)
  ·exact δ (gw h)
  ·exact ε h
  ·exact δ (dH h)
 ·rintro(h|h)
  ·exact δ (ε h)
  ·rw[<- bS k l,aC]at h;rcases h with h|h
   ·exact ε h
   ·exact δ (δ h)
theorem Ah {Q:List Sl}(hs:Sorted Q){x:Sl}{k:Nat}(hp:Pos Q x.V x.at_ k)(hne:∀s∈Q,s.V=x.V->s.at_≠x.at_):Sorted (ins Q k x):=by
 unfold Sorted ins;rw[List.pairwise_append,List.pairwise_cons];refine⟨hs.sublist (List.take_sublist _ _),⟨λy hy=>?_,hs.sublist (List.drop_sublist _ _)⟩,λy hy z hz=>?_⟩
 ·obtain⟨t,ht⟩:=List.mem_iff_getElem?.mp hy;rw[cP]at ht;have G:=hp.2.2 (k+t) y (by omega) ht;have O:=hne y (dH hy);unfold lt at*;omega
 ·obtain⟨t,ht⟩:=List.mem_iff_getElem?.mp hy;have kV:t<k:=by
   obtain⟨h,_⟩:=ν.mp ht;simp at h;omega
  rw[gQ kV]at ht;have G:=hp.2.1 t y kV ht;rcases ae.mp hz with rfl|hz
  ·exact G
  ·obtain⟨t2,OW⟩:=List.mem_iff_getElem?.mp hz;rw[cP]at OW;exact sorted_at hs ht OW (by omega)
theorem Ai {Q:List Sl}(hs:Sorted Q){s:Sl}(hi:Q[i]?=some s)(b:Nat):Sorted (Q.set i {s with bm:=b}):=by
 unfold Sorted;rw[cO];intro p q hp hq TK;simp only[dp]at hp hq;have hi':i<Q.length:=(ν.mp hi).1;have hv:Q[i]=s:=(ν.mp hi).2;have h:=cO.mp hs p q hp hq TK;rw[List.getElem_set,List.getElem_set];split
 ·rename_i e;subst e;rw[ai (by omega)];rw[hv]at h;exact h
 ·split
  ·rename_i e;subst e;rw[hv]at h;exact h
  ·exact h
theorem lO {Q:List Sl}(hs:Sorted Q){s t:Sl}(hi:Q[i]?=some s)(E:Q[j]?=some t)(G:s.V=t.V)(O:s.at_=t.at_):i=j:=by
 rcases eX i j with h|h|h
 ·have:=sorted_at hs hi E h;unfold lt at this;omega
 ·exact h
 ·have:=sorted_at hs E hi h;unfold lt at this;omega
def kz (m:Nat)(sz:Int)(Q:List Sl)(o:Int×Int)(j i:Nat):Prop:=∃s,Q[j]?=some s/\i<m/\s.bm.testBit i=true/\o.1=s.V/\o.2=s.at_*64+i*sz
end Sb
end Go.Proofs.YtcbmfakjfoggaaaGreatDoor
