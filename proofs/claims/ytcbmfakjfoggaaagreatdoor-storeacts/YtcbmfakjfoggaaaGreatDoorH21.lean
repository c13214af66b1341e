/- H21 -/
import Derived.Test.YtcbmfakjfoggaaaGreatDoorA0
import Derived.Test.YtcbmfakjfoggaaaGreatDoorH15
set_option maxHeartbeats 0
set_option maxRecDepth 100000
namespace Go.Proofs.YtcbmfakjfoggaaaGreatDoor
open _root_.Go.Proofs.Tryz Go.RowKit Go.Maps
namespace Pl
open Fr Bd Zn Dz Sb Mg
theorem WD (w:World):(zeroValue 151).run prog w=.ok (.agg #[]) w:=by kernel_rfl
theorem aaN (w:World):(zeroValue 34).run prog w=.ok (.agg #[.int .i64 0,.int .i64 0]) w:=by kernel_rfl
structure Mo (w:World)(mb q:Nat)(T:List Bl):Prop where
 own:∃ab8,w.ownsMap (H:=Unit) prog 34 unitElem mb q ab8/\(∀a b,W2 a b->Maps.has ab8 (oX a b)=decide ((a,b)∈T))/\Maps.size ab8=T.length
 wf:∀o∈T,W2 o.1 o.2
 V:T.Nodup
section
variable {w w':World}{mb q:Nat}{T:List Bl}
theorem Mo.lt (h:Mo w mb q T):mb<w.heap.size:=by
 obtain⟨ab8,G,_⟩:=h.own;exact G.lt
theorem Mo.blk (h:Mo w mb q T)(J:w'.heap[mb]?=w.heap[mb]?):Mo w' mb q T:=by
 obtain⟨ab8,⟨es,clock,G,O⟩,h3⟩:=h.own;exact⟨⟨ab8,⟨es,clock,J.trans G,O⟩,h3⟩,h.wf,h.V⟩
theorem Mo.aQ (h:Mo w mb q T):∃o,w.heap[mb]?=some o/\kind o=none:=by
 obtain⟨ab8,⟨es,clock,G,_⟩,_⟩:=h.own;exact⟨_,G,rfl⟩
theorem Mo.b (h:Mo w mb q T)(J:Below w.heap.size w w'):Mo w' mb q T:=h.blk (J.block _ h.lt)
theorem Mo.made (w:World):Mo (w.alloc (.map #[] 0)) w.heap.size 0 []:=⟨⟨.map [],World.ownsMap_made w prog 34 unitElem,λ_ _ _=>by simp[Maps.has],rfl⟩,λ_ h=>(by cases h),dm⟩
theorem Mo.look (h:Mo w mb q T){a b:Int}(hw:W2 a b):(Instr.lookup 141 (.map (some mb)) (.agg #[.int .i64 a,.int .i64 b]) true).run prog w=.ok (.tuple #[.agg #[],.bool (decide ((a,b)∈T))]) w:=by
 obtain⟨ab8,G,O,_⟩:=h.own;obtain⟨v,ps,hr,hv⟩:=G.look_ok gS underlying141 (WD w) unitElem_mk (pX hw.1 hw.2);obtain⟨rfl,_⟩:=unitElem_inv hv;have e:=O a b hw;unfold oX at e;rw[hr,e]
theorem Mo.put (h:Mo w mb q T)(hq:q<maxLen){a b:Int}(hw:W2 a b)(hn:(a,b)∉T):∃w',(Instr.mapUpdate 141 (.map (some mb)) (.agg #[.int .i64 a,.int .i64 b]) (.agg #[])).run prog w=.ok () w'/\Mo w' mb (q+1) (T++[(a,b)])/\Kept mb mb w w':=by
 obtain⟨ab8,G,O,h3⟩:=h.own;obtain⟨w',hr,h4,h5⟩:=G.store gS underlying141 hq (pX hw.1 hw.2) (unitElem_mk (H:=Unit));refine⟨w',hr,⟨⟨_,h4,λx y hx=>?_,?_⟩,λo ho=>?_,?_⟩,fC h5 (ε rfl)⟩
 ·by_cases e:x=a/\y=b
  ·obtain⟨rfl,rfl⟩:=e;rw[show oX x y=Lit.string (keyBytes [.int .i64 x,.int .i64 y])from rfl,has_put_same G.isMap (gS.key (pX hw.1 hw.2))];simp
  ·refine(has_put_other (k:=oX a b) (λe2=>e (nU hx hw e2)) _).trans ((O x y hx).trans ?_);have e3:¬((x,y)=(a,b)):=λe4=>e (Prod.mk.inj e4);simp[e3]
 ·rw[size_put (G.tidy gS),show Maps.has ab8 (Lit.string (keyBytes [.int .i64 a,.int .i64 b]))=false from by have:=O a b hw;rw[show Lit.string (keyBytes [.int .i64 a,.int .i64 b])=oX a b from rfl,this];simpa using hn,h3];simp
 ·rcases aC.1 ho with h6|h6
  ·exact h.wf o h6
  ·simp only[ae,aR,dg]at h6;rw[h6];exact hw
 ·refine aF.2 ⟨h.V,by simp,λx hx y hy e=>?_⟩;simp only[ae,aR,dg]at hy;exact hn (by rw[<- hy,<- e];exact hx)
theorem Mo.drop (h:Mo w mb q T){a b:Int}(hw:W2 a b)(hn:(a,b)∈T)(ty:TypeId):∃w',(Builtin.delete_ #[141,34] ty #[.map (some mb),.agg #[.int .i64 a,.int .i64 b]]).run prog w=.ok (.tuple #[]) w'/\Mo w' mb q (T.erase (a,b))/\Kept mb mb w w':=by
 obtain⟨ab8,G,O,h3⟩:=h.own;obtain⟨w',hr,h4,h5⟩:=G.drop gS underlying141 (pX hw.1 hw.2) ty;refine⟨w',hr,⟨⟨_,h4,λx y hx=>?_,?_⟩,λo ho=>h.wf o (List.mem_of_mem_erase ho),h.V.erase _⟩,fC h5 (ε rfl)⟩
 ·by_cases e:x=a/\y=b
  ·obtain⟨rfl,rfl⟩:=e;rw[show oX x y=Lit.string (keyBytes [.int .i64 x,.int .i64 y])from rfl,has_del_same];have:(x,y)∉T.erase (x,y):=h.V.not_mem_erase;simp[this]
  ·refine(has_del_other (k:=oX a b) (λe2=>e (nU hx hw e2))).trans ((O x y hx).trans ?_);have e3:((x,y):Bl)≠(a,b):=λe4=>e (Prod.mk.inj e4);simp only[List.mem_erase_of_ne e3]
 ·have h6:=size_del (k:=Lit.string (keyBytes [.int .i64 a,.int .i64 b])) (G.tidy gS);rw[show Maps.has ab8 (Lit.string (keyBytes [.int .i64 a,.int .i64 b]))=true from by have:=O a b hw;rw[show Lit.string (keyBytes [.int .i64 a,.int .i64 b])=oX a b from rfl,this];simpa using hn,af rfl,h3]at h6;rw[List.length_erase_of_mem hn];omega
end
def Jb:Value->Option (DataW Unit×List MemPlace)
 |.agg ⟨[.int .i64 a,.int .i64 b]⟩=>some (.agg [.lit (.int .i64 a),.lit (.int .i64 b)],[])
 |_=>none
def Jc (o:Bl):DataW Unit:=.agg [.lit (.int .i64 o.1),.lit (.int .i64 o.2)]
theorem Db (a b:Int):Jb (.agg #[.int .i64 a,.int .i64 b])=some (Jc (a,b),[]):=rfl
theorem Jd {v:Value}{o:Bl}{ps:List MemPlace}(h:Jb v=some (Jc o,ps)):v=.agg #[.int .i64 o.1,.int .i64 o.2]:=by
 unfold Jb at h;split at h
 ·rename_i a b;simp only[Jc,τ,fR,DataW.agg.injEq,List.cons.injEq,DataW.lit.injEq,Lit.int.injEq,aZ,bI]at h;obtain⟨⟨rfl,rfl⟩,_⟩:=h;rfl
 ·cases h
def fT (ab6:List (Nat×Bl))(t:Int):Option Bl:=(ab6.find? (λx=>decide ((x.1:Int)=t))).map (·.2)
structure My (w:World)(mb q:Nat)(ab6:List (Nat×Bl)):Prop where
 own:∃ab8,w.ownsMap (H:=Unit) prog 3 Jb mb q ab8/\(∀t,(Lit.int .i64 t).wf=true->Maps.has ab8 (.int .i64 t)=(fT ab6 t).isSome/\ab8.atKey (.int .i64 t) (Jc (0,0))=Jc ((fT ab6 t).getD (0,0)))/\Maps.size ab8=ab6.length
 V:(ab6.map (·.1)).Nodup
section
variable {w w':World}{mb q:Nat}{ab6:List (Nat×Bl)}
theorem My.lt (h:My w mb q ab6):mb<w.heap.size:=by
 obtain⟨ab8,G,_⟩:=h.own;exact G.lt
theorem My.blk (h:My w mb q ab6)(J:w'.heap[mb]?=w.heap[mb]?):My w' mb q ab6:=by
 obtain⟨ab8,⟨es,clock,G,O⟩,h3⟩:=h.own;exact⟨⟨ab8,⟨es,clock,J.trans G,O⟩,h3⟩,h.V⟩
theorem My.b (h:My w mb q ab6)(J:Below w.heap.size w w'):My w' mb q ab6:=h.blk (J.block _ h.lt)
theorem My.aQ (h:My w mb q ab6):∃o,w.heap[mb]?=some o/\kind o=none:=by
 obtain⟨ab8,⟨es,clock,G,_⟩,_⟩:=h.own;exact⟨_,G,rfl⟩
theorem My.made (w:World):My (w.alloc (.map #[] 0)) w.heap.size 0 []:=⟨⟨.map [],World.ownsMap_made w prog 3 Jb,λ_ _=>⟨rfl,rfl⟩,rfl⟩,dm⟩
theorem My.look (h:My w mb q ab6){t:Int}(hw:(Lit.int .i64 t).wf=true):(Instr.lookup 142 (.map (some mb)) (.int .i64 t) true).run prog w=.ok (.tuple #[.agg #[.int .i64 ((fT ab6 t).getD (0,0)).1,.int .i64 ((fT ab6 t).getD (0,0)).2],.bool (fT ab6 t).isSome]) w:=by
 obtain⟨ab8,G,O,_⟩:=h.own;obtain⟨v,ps,hr,hv⟩:=G.look_ok law underlying142 (aaN w) (Db 0 0) (keyOf_int_mk underlying3 hw);rw[(O t hw).2]at hv;rw[hr,(O t hw).1,Jd hv]
theorem My.len (h:My w mb q ab6)(ty:TypeId):(Builtin.len_ #[142] ty #[.map (some mb)]).run prog w=.ok (.int .i64 ab6.length) w:=by
 obtain⟨ab8,G,O,h3⟩:=h.own;rw[G.len underlying142,h3]
theorem Je {t:Nat}(o:Bl)(h:t∉ab6.map (·.1))(s:Int):fT (ab6++[(t,o)]) s=if s=t then some o else fT ab6 s:=by
 unfold fT;rw[List.find?_append];by_cases e:s=t
 ·subst e;have:ab6.find? (λx=>decide ((x.1:Int)=(t:Int)))=none:=dn.2 λx hx=>by
   have:x.1≠t:=λe=>h (e▸fq hx);simp;omega
  rw[this];simp
 ·rw[ai e];have e2:¬((t:Int)=s):=λe3=>e e3.symm;simp[e2]
theorem My.put (h:My w mb q ab6)(hq:q<maxLen){t:Nat}(hw:(Lit.int .i64 (t:Int)).wf=true)(a b:Int)(hn:t∉ab6.map (·.1)):∃w',(Instr.mapUpdate 142 (.map (some mb)) (.int .i64 t) (.agg #[.int .i64 a,.int .i64 b])).run prog w=.ok () w'/\My w' mb (q+1) (ab6++[(t,(a,b))])/\Kept mb mb w w':=by
 obtain⟨ab8,G,O,h3⟩:=h.own;obtain⟨w',hr,h4,h5⟩:=G.store law underlying142 hq (keyOf_int_mk underlying3 hw) (Db a b);have hno:fT ab6 t=none:=by
  unfold fT;rw[dn.2 λx hx=>by
   have:x.1≠t:=λe=>hn (e▸fq hx);simp;omega]
  rfl
 refine⟨w',hr,⟨⟨_,h4,λs hs=>?_,?_⟩,?_⟩,fC h5 (ε rfl)⟩
 ·rw[Je _ hn];by_cases e:s=t
  ·subst e;rw[af rfl,has_put_same G.isMap (law.key (keyOf_int_mk underlying3 hw)),atKey_put_same G.isMap (law.key (keyOf_int_mk underlying3 hw))];exact⟨rfl,rfl⟩
  ·have e2:Lit.int .i64 s≠Lit.int .i64 (t:Int):=λe3=>e (by simpa using e3);rw[ai e,has_put_other e2,atKey_put_other e2];exact O s hs
 ·rw[size_put (G.tidy law),(O t hw).1,hno,h3];simp
 ·rw[cU];refine aF.2 ⟨h.V,by simp,λx hx y hy e=>?_⟩;simp only[dL,List.map_nil,ae,aR,dg]at hy;exact hn (by rw[<- hy,<- e];exact hx)
def g_ (ab6:List (Nat×Bl))(t:Int):List (Nat×Bl):=ab6.filter (λx=>decide ((x.1:Int)≠t))
theorem Jf (t s:Int):fT (g_ ab6 t) s=if s=t then none else fT ab6 s:=by
 unfold fT g_;by_cases e:s=t
 ·subst e;rw[af rfl,dn.2 λx hx=>by
   have:=(fO.1 hx).2;simpa using this]
  rfl
 ·rw[ai e];congr 1;exact find_filter_keep (λp hp=>by simp only[dh]at hp ⊢;omega) ab6
theorem kf {t:Int}(h:fT ab6 t=none):g_ ab6 t=ab6:=by
 unfold g_;refine cG.2 λx hx=>?_;unfold fT at h;have O:=dn.1 (Option.map_eq_none_iff.1 h) x hx;simpa using O
theorem Jg (hn:(ab6.map (·.1)).Nodup){t:Int}(h:(fT ab6 t).isSome=true):(g_ ab6 t).length+1=ab6.length:=by
 induction ab6 with
 |nil=>simp[fT]at h
 |cons x l ih =>
  rw[dL,a_]at hn;by_cases e:(x.1:Int)=t
  ·have:g_ l t=l:=kf (by
    unfold fT;rw[dn.2 λy hy=>by
     have:y.1≠x.1:=λe2=>hn.1 (e2▸fq hy);simp;omega]
    rfl)
   unfold g_ at this ⊢;rw[bZ,ai (by simpa using e),this,bk]
  ·have O:(fT l t).isSome=true:=by
    unfold fT at h ⊢;rw[List.find?_cons]at h;have:decide ((x.1:Int)=t)=false:=by simpa using e
    rw[this]at h;exact h
   have h3:=ih hn.2 O;unfold g_ at h3 ⊢;rw[bZ,af (by simpa using e),bk,bk];omega
theorem My.drop (h:My w mb q ab6){t:Int}(hw:(Lit.int .i64 t).wf=true)(ty:TypeId):∃w',(Builtin.delete_ #[142,3] ty #[.map (some mb),.int .i64 t]).run prog w=.ok (.tuple #[]) w'/\My w' mb q (g_ ab6 t)/\Kept mb mb w w':=by
 obtain⟨ab8,G,O,h3⟩:=h.own;obtain⟨w',hr,h4,h5⟩:=G.drop law underlying142 (keyOf_int_mk underlying3 hw) ty;refine⟨w',hr,⟨⟨_,h4,λs hs=>?_,?_⟩,?_⟩,fC h5 (ε rfl)⟩
 ·rw[Jf];by_cases e:s=t
  ·subst e;rw[af rfl,has_del_same,atKey_del_same];exact⟨rfl,rfl⟩
  ·have e2:Lit.int .i64 s≠Lit.int .i64 t:=λe3=>e (by simpa using e3);rw[ai e,has_del_other e2,atKey_del_other e2];exact O s hs
 ·have h6:=size_del (k:=Lit.int .i64 t) (G.tidy law);rw[(O t hw).1,h3]at h6;cases hy:fT ab6 t with
  |none =>
   rw[hy]at h6;rw[kf hy];simpa using h6
  |some o =>
   rw[hy]at h6;have:=Jg h.V (t:=t) (by rw[hy];rfl);simp at h6;omega
 ·exact h.V.sublist (List.filter_sublist.map _)
end
end Pl
namespace Zn
open Fr Bd
def NJ (w:World)(z k g:Nat):Prop:=∃cp,w.cell? ⟨z,5,none⟩=some (.slice (some ⟨g,0,none⟩) k cp)
theorem Fv (z:Nat)(mn lw hi:Int)(k:Nat)(nb:Nat->Nat)(V:Nat->Nd)(fr:Nat->List Nat)(x:Nat)(o:Int)(u:Bool)(w:World)(h:RZ w z mn lw hi k nb V fr)(hx:x<k)(h0:0<=o)(h6:o<=6)(hlen:(fr x).length=k)(oH:∀i∈fr x,i<k)(hk4:k<=20):
  Calls prog 176 #[ptr z,.int .i64 x,.int .i64 o,.bool u] w λev w' =>
   ((fr x).find? (λi=>fA o mn u (V i)==2)=none/\ev=.returned (.tuple #[sM 0 0 0,.int .i64 (if(fr x).any (λi=>fA o mn u (V i)==1)then 7 else 5)])/\Below w.heap.size w w') \/
   ∃i,(fr x).find? (λi=>fA o mn u (V i)==2)=some i/\i<k/\ev=.returned (.tuple #[sM i (mO o (V i)) o,.int .i64 0])/\∃c g,w.heap.size<=c/\RZ w' z mn lw hi k (up nb i c) (up V i (kC o (V i))) fr/\(Tag w g 253/\NJ w z k g)/\Kept g g w w':=by
 have F1:=χ (γ w.heap.size w) (CA 0 0 0);have P1:=Av w;have H1:=I (oY z mn lw hi k nb V fr x _ (h.b F1));rw[show decide ((0:Int)<=x/\(x:Int)<k)=true by simp;omega]at H1;obtain⟨g0,cp0,qH,NK⟩:=h.cn;have hg0:=(NK.lt g0 rfl).2;have tg0:Tag w g0 253:=by
  rcases NK.2 with⟨h',_⟩|⟨g',cap',cur,h',_,qs,_⟩
  ·cases h'
  ·simp only[ψ,τ,av]at h';obtain⟨⟨rfl,_⟩,_⟩:=h';exact⟨cur,_,qs⟩
 have OWN:=I NK;have hzl:=h.tg.lt;have H:=I h;clear h NK;unfold CA at*;have oG:(0:Int)<=x:=by omega
 have hlt:(x:Int)<k:=by omega
 have hq:∀x:Nat,ptr x=.pointer (some ⟨x,0,none⟩):=λ_=>rfl;rw[hq z]at*;unfold sM;generalize hL:fr x=L at*;go_enter func176,ntmps176;go_wp2_with fail;refine(Z H1).mono ?_;rintro ev w3⟨rfl,b3⟩;have B3:=I (bW F1 b3);have P3:=I (P1.b b3);have R3:=(Z H).b (Z B3);obtain⟨g3,c3,e3,_,_⟩:=R3.node hx;clear H1;go_wp2_with fail;refine(uM o w3 h0 h6).mono ?_;rintro ev w4⟨rfl,rfl⟩;clear e3 R3 b3 P1 F1;go_wp2_with fail;go_loopw [12,13] (λs a wr=>∃(lo:Bool) (j:Nat),s=.bool lo/\a=.int .i64 j/\j<=k/\Hid (∀j',j'<j->∀E:j'<L.length,fA o mn u (V L[j'])≠2)/\Hid (lo=(L.take j).any (λi=>fA o mn u (V i)==1))/\Hid (PB wr w.heap.size)/\Hid (Below w.heap.size w wr)) (λ_ a _=>k-(intOf a).toNat)
 case atStart=>exact⟨false,0,rfl,rfl,Γ _,λj' E=>by omega,rfl,P3,B3⟩
 case round =>
  clear B3 P3;obtain⟨lo,j,rfl,rfl,hj',hC,SI,hP,hB⟩:=hrel;have hgj:(0:Int)<=j:=by omega
  have R:=(Z H).b (Z hB);have e5:=((Z hB).cell (p:=⟨z,5,none⟩) hzl).trans qH;by_cases hjk:j<k
  ·have aaU:(j:Int)<k:=by omega
   have sH:j<L.length:=by omega
   obtain⟨g6,c6,f6,d6,e6,hg6,e7,hf6,e8⟩:=R.from hx (j:=j) (by rw[hL];exact sH);rw[hL]at e7;have hik:=oH L[j] (aO sH);have e8:wr.cell? ⟨f6,j,none⟩=some (.int .i64 (L[j]:Nat)):=by rw[e8];simp[hL]
   have OL:=((aN (Z OWN) (Z hB)).cellAt L[j] (by omega)).trans (nW hik);have eH:=(Z H).ok L[j] hik;have hrb:=R.rb L[j] hik;have uB:L.take (j+1)=L.take j++[L[j]]:=aL sH;have ZI:=Z hB;have ZJ:=Z hP;have hwl:=ZI.size;have HOW:=I (λw1 (J:Below wr.heap.size wr w1)=>Mj (nb L[j]) (V L[j]).N (V L[j]).aca (V L[j]).T w1 (hrb.b J) (oZ eH).1 (oZ eH).2.1);have Gm:=I (λi (hi:i<k)=>(((Z H).rb i hi).lt:nb i<w.heap.size));generalize Uq:L[j]=i at*;have aaV:=R.m2;have aaW:=R.tg.lt;clear hrb R;have abO:(i:Int)<k:=by omega
   have abP:(0:Int)<=i:=by omega
   go_wp2_with fail;refine((Z HOW) wr (γ _ _)).mono ?_;rintro ev w5⟨c,rfl,RC,K,b5⟩;rw[hq c];have F5:=bW ZI b5;have P5:=ZJ.b b5;have HTA:=EI c (V i) o w5 RC eH h0;have Cr:wr.cell? ⟨z,2,none⟩=some (.int .i64 mn):=aaV;have c50:=(b5.cell (p:=⟨z,2,none⟩) aaW).trans Cr;clear HOW RC e6 e7 e8 OL Cr;go_wp2_with fail;rcases HTA with⟨_,hf,p_⟩|⟨y,hf,p_⟩
   ·have hC0:fA o mn u (V i)=0:=by simp[fA,hf]
    have hC':Hid (∀j',j'<j+1->∀E:j'<L.length,fA o mn u (V L[j'])≠2):=λj' hj' E=>by
     rcases bC j' j with h'|h'
     ·exact(Z hC) j' h' E
     ·obtain rfl:j'=j:=by omega
      rw[Uq,hC0];decide
    have SJ:Hid (lo=(L.take (j+1)).any (λi=>fA o mn u (V i)==1)):=by
     show _=_;rw[uB,List.any_append,<- Z SI];simp[hC0]
    clear hC SI uB hC0;have p_:=I p_;refine(Z p_).mono ?_;rintro ev w6⟨rfl,b6⟩;have F6:=bW F5 b6;have P6:=P5.b b6;have F7:=I (χ F6 (.cells #[.int .i64 0,.int .i64 0] 291));have P7:=I (P6.b (χ (γ _ _) (.cells #[.int .i64 0,.int .i64 0] 291)));clear p_ c50 P5 F5 hB hP ZI ZJ;go_wp2;go_roundw;case rel=>exact⟨lo,j+1,rfl,by go_num,by omega,hC',SJ,P7,F7⟩
    case measure=>simp[intOf];omega
   ·have hC1:fA o mn u (V i)=if u=false/\fS (kC o (V i)).aca<mn then 1 else 2:=by simp[fA,kC,hf]
    have K_:=Au h0 eH;generalize hdd:kC o (V i)=d' at*;generalize had:mO o (V i)=ad at*;have p_:=I p_;refine(Z p_).mono ?_;rintro ev w6⟨rfl,R6,K6⟩;have hcw:w.heap.size<c:=ι ZJ.lt K;have F6:=F5.trans (K6.below (N:=w.heap.size) (by omega) (by omega) F5.size);have P6:=P5.k K6 (by omega);clear p_;have F7:=χ F6 (.cells #[.int .i64 ad,.int .i64 o] 291);have R7:=R6.a (.cells #[.int .i64 ad,.int .i64 o] 291);have P7:=P6.b (χ (γ _ _) (.cells #[.int .i64 ad,.int .i64 o] 291));have q0:=θ w6 #[.int .i64 ad,.int .i64 o] 291 0;have q1:=θ w6 #[.int .i64 ad,.int .i64 o] 291 1;have s7:w6.heap.size<(w6.alloc (.cells #[.int .i64 ad,.int .i64 o] 291)).heap.size:=by simp
    have h6s:w.heap.size<=w6.heap.size:=F6.size;clear F6 P6 R6 K6 P5 F5 c50 hf;go_wp2_with fail;generalize w6.alloc (.cells #[.int .i64 ad,.int .i64 o] 291)=W7 at*;have m7:=(F7.cell (p:=⟨z,2,none⟩) hzl).trans (Z H).m2;have KM:=I (λw1 (J:Below W7.heap.size W7 w1)=>((J.cell (p:=⟨z,2,none⟩) (ι hzl F7.size)).trans m7:w1.cell? ⟨z,2,none⟩=some (.int .i64 mn)));have Xf:=I (λw1 (J:Below W7.heap.size W7 w1)=>Hm c d'.N d'.aca d'.T w1 (R7.b J) (oZ K_).1 (oZ K_).2.2);have tok:True:=trivial;by_cases hs:u=false/\fS d'.aca<mn
    ·obtain⟨rfl,hs⟩:=hs;have d8:decide (fS d'.aca<mn)=true:=by simpa using hs
     have SK:fA o mn false (V i)=1:=by rw[hC1,af ⟨rfl,hs⟩]
     have hC':Hid (∀j',j'<j+1->∀E:j'<L.length,fA o mn false (V L[j'])≠2):=λj' hj' E=>by
      rcases bC j' j with h'|h'
      ·exact(Z hC) j' h' E
      ·obtain rfl:j'=j:=by omega
       rw[Uq,SK];decide
     have SJ:Hid (true=(L.take (j+1)).any (λi=>fA o mn false (V i)==1)):=by
      show _=_;rw[uB,List.any_append];simp[SK]
     clear hC SI uB SK hC1;generalize fS d'.aca=pf at*;go_region_held3 (λw'=>w'.cell? ⟨z,2,none⟩=some (.int .i64 mn)) ((first|(go_keep;done)|(exact(Z KM) _ (by assumption)))) ((go_at_call 238;refine((Z Xf) _ (dw W7)).mono ?_;rintro ev w8⟨rfl,b8⟩;have f8:Below W7.heap.size W7 w8:=bd b8));have P8:=I (P7.b f8);have F8:=I (bW F7 f8);clear KM Xf f8 b8 F7 P7 R7 hB hP ZI ZJ;go_wp2;go_roundw;case rel=>exact⟨true,j+1,rfl,by go_num,by omega,hC',SJ,P8,F8⟩
     case measure=>simp[intOf];omega
    ·have ZK:fA o mn u (V i)=2:=by rw[hC1,ai hs]
     have hu:u=true\/(u=false/\decide (fS d'.aca<mn)=false):=by
      cases u
      ·exact δ ⟨rfl,by simpa using hs⟩
      ·exact ε rfl
     generalize fS d'.aca=pf at*;have jw:(u=true->Hid True):=λ_=>trivial;rcases hu with hu|⟨hu,du⟩
     ·subst hu;go_region
      have f8:Below W7.heap.size W7 W7.drew:=dw W7;generalize W7.drew=w8 at*;have F8:=bW F7 f8;have R8:=(Z H).b F8;have Xg:=R7.b f8;have P8:=P7.b f8;have x0:=(f8.cell (p:=⟨w6.heap.size,0,none⟩) s7).trans q0;have x1:=(f8.cell (p:=⟨w6.heap.size,1,none⟩) s7).trans q1;have z5:=(F8.cell (p:=⟨z,5,none⟩) hzl).trans qH;have SL:=aN (Z OWN) F8;have y0:=(SL.cellAt i (by omega)).trans (nW hik);have yf:=SL.frozenAt i;have JM:∀i',i'<k->nb i'≠c:=λi' hi'=>by have:=(Z Gm) i' hi';omega
      have RS:=R8.swap hik JM Xg K_ z5;have K8:Kept g0 g0 w (w8.setCell ⟨g0,i,none⟩ (ptr c)):=(dY F8).trans (bA w8 i (ptr c));have hbg:w.heap.size≠g0:=by omega
      have PS:=P8.k (bA w8 i (ptr c)) hbg;have NL:w6.heap.size≠g0:=by omega
      have Xh:=((bA (g:=g0) w8 i (ptr c)).cell (p:=⟨w6.heap.size,0,none⟩) (ι s7 f8.size) NL NL).trans x0;have Xi:=((bA (g:=g0) w8 i (ptr c)).cell (p:=⟨w6.heap.size,1,none⟩) (ι s7 f8.size) NL NL).trans x1;have Xj:L.find? (λi=>fA o mn true (V i)==2)=some i:=by
       rw[<- Uq];refine qE sH (λj' hj' hlt=>?_) (by rw[Uq,ZK];rfl);have:=(Z hC) j' hlt hj';simpa using this
      clear hC SI uB KM Xf x0 x1 Gm SL R8 Xg P8 JM m7 hB hP;have RS:=I RS;have K8:=I K8;have PS:=I PS;rw[hq c]at*;have P:=Z PS;have Xh:(w8.setCell ⟨g0,i,none⟩ (.pointer (some ⟨c,0,none⟩))).cell? ⟨w6.heap.size,0,none⟩=some (.int .i64 ad):=Xh;have Xi:(w8.setCell ⟨g0,i,none⟩ (.pointer (some ⟨c,0,none⟩))).cell? ⟨w6.heap.size,1,none⟩=some (.int .i64 o):=Xi;have t0:=fK (v:=.int .i64 i) P.c0;have t1:=fK (v:=.int .i64 ad) ((bu (w:=w8.setCell ⟨g0,i,none⟩ (.pointer (some ⟨c,0,none⟩))) (a:=⟨w.heap.size,0,none⟩) (b:=⟨w.heap.size,1,none⟩) (v:=.int .i64 i) (by simp)).trans P.c1);have t2:=fK (v:=.int .i64 o) ((bu (a:=⟨w.heap.size,1,none⟩) (b:=⟨w.heap.size,2,none⟩) (v:=.int .i64 ad) (by simp)).trans ((bu (w:=w8.setCell ⟨g0,i,none⟩ (.pointer (some ⟨c,0,none⟩))) (a:=⟨w.heap.size,0,none⟩) (b:=⟨w.heap.size,2,none⟩) (v:=.int .i64 i) (by simp)).trans P.c2));have p0:=P.c0;have p1:=P.c1;have p2:=P.c2;have pf0:=P.f 0;have pf1:=P.f 1;have pf2:=P.f 2;have SM:=P.tg;clear P PS;go_wp2;all_goals
       (try simp only[Exit.inBlock,Exit.then]);refine Θ (v:=.tuple #[.agg #[.int .i64 i,.int .i64 ad,.int .i64 o],.int .i64 0]) ?_ rfl ?_
       ·simp[results,results176,go_sem,t0,t1,t2];try rfl
       have bx:=Z RS;have RF:=(((bx.keep (bA (w8.setCell ⟨g0,i,none⟩ (.pointer (some ⟨c,0,none⟩))) 0 (.int .i64 i)) SM (by decide) (by decide) (by decide) (by decide) (by decide) (by decide)).keep (bA _ 1 (.int .i64 ad)) (SM.set _ _) (by decide) (by decide) (by decide) (by decide) (by decide) (by decide)).keep (bA _ 2 (.int .i64 o)) ((SM.set _ _).set _ _) (by decide) (by decide) (by decide) (by decide) (by decide) (by decide));have KF:=(((Z K8).gg (ζ _) 0 (.int .i64 i)).gg (ζ _) 1 (.int .i64 ad)).gg (ζ _) 2 (.int .i64 o);exact⟨rfl,c,by omega,RF,g0,⟨tg0,cp0,qH⟩,KF⟩
     ·subst hu;go_region_held3 (λw'=>w'.cell? ⟨z,2,none⟩=some (.int .i64 mn)) ((first|(go_keep;done)|(exact(Z KM) _ (by assumption)))) ((go_at_call 238;refine((Z Xf) _ (dw W7)).mono ?_;rintro ev w8⟨rfl,b8⟩;have f8:Below W7.heap.size W7 w8:=bd b8));have F8:=bW F7 f8;have R8:=(Z H).b F8;have Xg:=R7.b f8;have P8:=P7.b f8;have x0:=(f8.cell (p:=⟨w6.heap.size,0,none⟩) s7).trans q0;have x1:=(f8.cell (p:=⟨w6.heap.size,1,none⟩) s7).trans q1;have z5:=(F8.cell (p:=⟨z,5,none⟩) hzl).trans qH;have SL:=aN (Z OWN) F8;have y0:=(SL.cellAt i (by omega)).trans (nW hik);have yf:=SL.frozenAt i;have JM:∀i',i'<k->nb i'≠c:=λi' hi'=>by have:=(Z Gm) i' hi';omega
      have RS:=R8.swap hik JM Xg K_ z5;have K8:Kept g0 g0 w (w8.setCell ⟨g0,i,none⟩ (ptr c)):=(dY F8).trans (bA w8 i (ptr c));have hbg:w.heap.size≠g0:=by omega
      have PS:=P8.k (bA w8 i (ptr c)) hbg;have NL:w6.heap.size≠g0:=by omega
      have Xh:=((bA (g:=g0) w8 i (ptr c)).cell (p:=⟨w6.heap.size,0,none⟩) (ι s7 f8.size) NL NL).trans x0;have Xi:=((bA (g:=g0) w8 i (ptr c)).cell (p:=⟨w6.heap.size,1,none⟩) (ι s7 f8.size) NL NL).trans x1;have Xj:L.find? (λi=>fA o mn false (V i)==2)=some i:=by
       rw[<- Uq];refine qE sH (λj' hj' hlt=>?_) (by rw[Uq,ZK];rfl);have:=(Z hC) j' hlt hj';simpa using this
      clear hC SI uB KM Xf x0 x1 Gm SL R8 Xg P8 JM m7 hB hP;have RS:=I RS;have K8:=I K8;have PS:=I PS;rw[hq c]at*;have P:=Z PS;have Xh:(w8.setCell ⟨g0,i,none⟩ (.pointer (some ⟨c,0,none⟩))).cell? ⟨w6.heap.size,0,none⟩=some (.int .i64 ad):=Xh;have Xi:(w8.setCell ⟨g0,i,none⟩ (.pointer (some ⟨c,0,none⟩))).cell? ⟨w6.heap.size,1,none⟩=some (.int .i64 o):=Xi;have t0:=fK (v:=.int .i64 i) P.c0;have t1:=fK (v:=.int .i64 ad) ((bu (w:=w8.setCell ⟨g0,i,none⟩ (.pointer (some ⟨c,0,none⟩))) (a:=⟨w.heap.size,0,none⟩) (b:=⟨w.heap.size,1,none⟩) (v:=.int .i64 i) (by simp)).trans P.c1);have t2:=fK (v:=.int .i64 o) ((bu (a:=⟨w.heap.size,1,none⟩) (b:=⟨w.heap.size,2,none⟩) (v:=.int .i64 ad) (by simp)).trans ((bu (w:=w8.setCell ⟨g0,i,none⟩ (.pointer (some ⟨c,0,none⟩))) (a:=⟨w.heap.size,0,none⟩) (b:=⟨w.heap.size,2,none⟩) (v:=.int .i64 i) (by simp)).trans P.c2));have p0:=P.c0;have p1:=P.c1;have p2:=P.c2;have pf0:=P.f 0;have pf1:=P.f 1;have pf2:=P.f 2;have SM:=P.tg;clear P PS;go_wp2;all_goals
       (try simp only[Exit.inBlock,Exit.then]);refine Θ (v:=.tuple #[.agg #[.int .i64 i,.int .i64 ad,.int .i64 o],.int .i64 0]) ?_ rfl ?_
       ·simp[results,results176,go_sem,t0,t1,t2];try rfl
       have bx:=Z RS;have RF:=(((bx.keep (bA (w8.setCell ⟨g0,i,none⟩ (.pointer (some ⟨c,0,none⟩))) 0 (.int .i64 i)) SM (by decide) (by decide) (by decide) (by decide) (by decide) (by decide)).keep (bA _ 1 (.int .i64 ad)) (SM.set _ _) (by decide) (by decide) (by decide) (by decide) (by decide) (by decide)).keep (bA _ 2 (.int .i64 o)) ((SM.set _ _).set _ _) (by decide) (by decide) (by decide) (by decide) (by decide) (by decide));have KF:=(((Z K8).gg (ζ _) 0 (.int .i64 i)).gg (ζ _) 1 (.int .i64 ad)).gg (ζ _) 2 (.int .i64 o);exact⟨rfl,c,by omega,RF,g0,⟨tg0,cp0,qH⟩,KF⟩
  ·have aaU:¬(j:Int)<k:=by omega
   obtain rfl:k=j:=by omega
   have hnone:L.find? (λi=>fA o mn u (V i)==2)=none:=by
    rw[dn];intro i hi;obtain⟨j',hj',rfl⟩:=bU hi;have:=(Z hC) j' (by omega) hj';simpa using this
   have vV:L.take k=L:=bG (by omega);have mM:lo=L.any (λi=>fA o mn u (V i)==1):=by have:=Z SI;rwa [vV]at this
   have P:=Z hP;have F3:=aas (Z hB) (ζ _) 0 0 0;clear hC SI hP hB R;have t0:=fK (v:=.int .i64 0) P.c0;have t1:=fK (v:=.int .i64 0) ((bu (w:=wr) (a:=⟨w.heap.size,0,none⟩) (b:=⟨w.heap.size,1,none⟩) (v:=.int .i64 0) (by simp)).trans P.c1);have t2:=fK (v:=.int .i64 0) ((bu (a:=⟨w.heap.size,1,none⟩) (b:=⟨w.heap.size,2,none⟩) (v:=.int .i64 0) (by simp)).trans ((bu (w:=wr) (a:=⟨w.heap.size,0,none⟩) (b:=⟨w.heap.size,2,none⟩) (v:=.int .i64 0) (by simp)).trans P.c2));have p0:=P.c0;have p1:=P.c1;have p2:=P.c2;have pf0:=P.f 0;have pf1:=P.f 1;have pf2:=P.f 2;generalize abQ:L.any (λi=>fA o mn u (V i)==1)=an at*;subst mM;cases lo
   ·go_wp2;(try simp only[Exit.inBlock,Exit.then]);refine Θ (v:=.tuple #[.agg #[.int .i64 0,.int .i64 0,.int .i64 0],.int .i64 5]) ?_ rfl ?_
    ·simp[results,results176,go_sem,t0,t1,t2];try rfl
    ·first|exact⟨rfl,F3⟩|exact ε ⟨rfl,F3⟩|exact ε ⟨hnone,rfl,F3⟩
   ·go_wp2;(try simp only[Exit.inBlock,Exit.then]);refine Θ (v:=.tuple #[.agg #[.int .i64 0,.int .i64 0,.int .i64 0],.int .i64 7]) ?_ rfl ?_
    ·simp[results,results176,go_sem,t0,t1,t2];try rfl
    ·first|exact⟨rfl,F3⟩|exact ε ⟨rfl,F3⟩|exact ε ⟨hnone,rfl,F3⟩
end Zn
namespace Pl
open Fr Bd Zn Dz Sb Mg
end Pl
end Go.Proofs.YtcbmfakjfoggaaaGreatDoor
