/- J1 -/
import Derived.Test.YtcbmfakjfoggaaaGreatDoorA0
import Derived.Test.YtcbmfakjfoggaaaGreatDoorH12
import Derived.Test.YtcbmfakjfoggaaaGreatDoorH15
import Derived.Test.YtcbmfakjfoggaaaGreatDoorH00
import Derived.Test.YtcbmfakjfoggaaaGreatDoorH24
import Derived.Test.YtcbmfakjfoggaaaGreatDoorH26
import Derived.Lib.UnsafeStr
import Derived.Laws.IdiomStrings
import Derived.Lib.BufferWrite
import Derived.Lib.SlBuf
import Derived.Laws.CopyRow
set_option maxRecDepth 100000
namespace Go.Proofs.YtcbmfakjfoggaaaGreatDoor
open _root_.Go.Proofs.Tryz Go.RowKit Go.Maps
namespace Pl
open Fr Bd Zn Dz Sb Mg
theorem yI (w:World):(zeroValue 190).run prog w=.ok (L8 none) w:=by kernel_rfl
def mE (f:Int->Option Nat)(t:Int)(v:Option Nat):Int->Option Nat:=λx=>if x=t then v else f x
theorem l8 (f:Int->Option Nat)(t:Int)(v:Option Nat):mE f t v t=v:=by simp[mE]
theorem l5 {f:Int->Option Nat}{t x:Int}(h:x≠t)(v:Option Nat):mE f t v x=f x:=by simp[mE,h]
structure gB (w:World)(mb q:Nat)(f:Int->Option Nat)(n:Nat):Prop where
 own:∃ab8,w.ownsMap (H:=Unit) prog 3 YK mb q ab8/\(∀t,(Lit.int .i64 t).wf=true->Maps.has ab8 (.int .i64 t)=(f t).isSome/\ab8.atKey (.int .i64 t) (L9 none)=L9 (f t))/\Maps.size ab8=n
section
variable {w w':World}{mb q n:Nat}{f:Int->Option Nat}
theorem gB.lt (h:gB w mb q f n):mb<w.heap.size:=by
 obtain⟨ab8,G,_⟩:=h.own;exact G.lt
theorem gB.blk (h:gB w mb q f n)(J:w'.heap[mb]?=w.heap[mb]?):gB w' mb q f n:=by
 obtain⟨ab8,⟨es,clock,G,O⟩,h3⟩:=h.own;exact⟨ab8,⟨es,clock,J.trans G,O⟩,h3⟩
theorem gB.b (h:gB w mb q f n)(J:Below w.heap.size w w'):gB w' mb q f n:=h.blk (J.block _ h.lt)
theorem gB.aQ (h:gB w mb q f n):∃o,w.heap[mb]?=some o/\kind o=none:=by
 obtain⟨ab8,⟨es,clock,G,_⟩,_⟩:=h.own;exact⟨_,G,rfl⟩
theorem gB.made (w:World):gB (w.alloc (.map #[] 0)) w.heap.size 0 (λ_=>none) 0:=⟨.map [],World.ownsMap_made w prog 3 YK,λ_ _=>⟨rfl,rfl⟩,rfl⟩
theorem gB.look (h:gB w mb q f n){t:Int}(hw:(Lit.int .i64 t).wf=true):(Instr.lookup 187 (.map (some mb)) (.int .i64 t) false).run prog w=.ok (L8 (f t)) w:=by
 obtain⟨ab8,G,O,_⟩:=h.own;obtain⟨v,ps,hr,hv⟩:=G.lookup law underlying187 (yI w) (OU none) (keyOf_int_mk underlying3 hw);rw[(O t hw).2]at hv;rw[L_ hv]at hr;exact hr
theorem gB.OV (h:gB w mb q f n){t:Int}(hw:(Lit.int .i64 t).wf=true)(k:Nat):(Instr.lookup 187 (.map (some mb)) (.int .i64 t) false).run prog (w.drewN k)=.ok (L8 (f t)) (w.drewN k):=(h.b (iB (γ _ _) k)).look hw
theorem gB.len (h:gB w mb q f n)(ty:TypeId):(Builtin.len_ #[187] ty #[.map (some mb)]).run prog w=.ok (.int .i64 n) w:=by
 obtain⟨ab8,G,_,h3⟩:=h.own;rw[G.len underlying187,h3]
theorem gB.put (h:gB w mb q f n)(hq:q<maxLen){t:Int}(hw:(Lit.int .i64 t).wf=true)(hn:f t=none)(b:Nat):∃w',(Instr.mapUpdate 187 (.map (some mb)) (.int .i64 t) (.pointer (some ⟨b,0,none⟩))).run prog w=.ok () w'/\gB w' mb (q+1) (mE f t (some b)) (n+1)/\Kept mb mb w w':=by
 obtain⟨ab8,G,O,h3⟩:=h.own;obtain⟨w',hr,h4,h5⟩:=G.store law underlying187 hq (keyOf_int_mk underlying3 hw) (OU (some b));refine⟨w',hr,⟨_,h4,λs hs=>?_,?_⟩,fC h5 (ε rfl)⟩
 ·by_cases e:s=t
  ·subst e;rw[l8,has_put_same G.isMap (law.key (keyOf_int_mk underlying3 hw)),atKey_put_same G.isMap (law.key (keyOf_int_mk underlying3 hw))];exact⟨rfl,rfl⟩
  ·have e2:Lit.int .i64 s≠Lit.int .i64 t:=λe3=>e (by simpa using e3);rw[l5 e,has_put_other e2,atKey_put_other e2];exact O s hs
 ·rw[size_put (G.tidy law),(O t hw).1,hn,h3];rfl
theorem gB.drop (h:gB w mb q f n){t:Int}(hw:(Lit.int .i64 t).wf=true)(hs:(f t).isSome=true)(ty:TypeId):∃w',(Builtin.delete_ #[187,3] ty #[.map (some mb),.int .i64 t]).run prog w=.ok (.tuple #[]) w'/\gB w' mb q (mE f t none) (n-1)/\Kept mb mb w w':=by
 obtain⟨ab8,G,O,h3⟩:=h.own;obtain⟨w',hr,h4,h5⟩:=G.drop law underlying187 (keyOf_int_mk underlying3 hw) ty;refine⟨w',hr,⟨_,h4,λs hs=>?_,?_⟩,fC h5 (ε rfl)⟩
 ·by_cases e:s=t
  ·subst e;rw[l8,has_del_same,atKey_del_same];exact⟨rfl,rfl⟩
  ·have e2:Lit.int .i64 s≠Lit.int .i64 t:=λe3=>e (by simpa using e3);rw[l5 e,has_del_other e2,atKey_del_other e2];exact O s hs
 ·have h6:=size_del (k:=Lit.int .i64 t) (G.tidy law);rw[(O t hw).1,hs,af rfl,h3]at h6;omega
end
structure Bs where
 o:Bl
 l:List UInt8
 n:Nat
 q:Nat
def yJ (x:Bs):Value:=.slice (some ⟨x.q,0,none⟩) x.l.length x.l.length
structure ik (w:World)(b:Nat)(x:Bs):Prop where
 c0:w.cell? ⟨b,0,none⟩=some (.int .i64 x.o.1)
 c1:w.cell? ⟨b,1,none⟩=some (.int .i64 x.o.2)
 c2:w.cell? ⟨b,2,none⟩=some (yJ x)
 c3:w.cell? ⟨b,3,none⟩=some (.int .i64 x.n)
 tg:Tag w b 192
 fz:∀o,w.frozen? ⟨b,o,none⟩=false
 r:w.heap[x.q]?=some (.cells (Lib.byteCells x.l).toArray 5 (0,0))
section
variable {w w':World}{d:Nat}{x:Bs}
theorem ik.keep (h:ik w d x)(G:w'.heap[d]?=w.heap[d]?)(O:w'.heap[x.q]?=w.heap[x.q]?):ik w' d x:=by
 have K:=λj=>η (w:=w) (a:=⟨d,j,none⟩) G;exact⟨(K 0).trans h.c0,(K 1).trans h.c1,(K 2).trans h.c2,(K 3).trans h.c3,h.tg.blk G,λo=>(π (w:=w) (a:=⟨d,o,none⟩) G).trans (h.fz o),O.trans h.r⟩
theorem ik.rt (h:ik w d x):Tag w x.q 5:=⟨_,_,h.r⟩
theorem ik.b (h:ik w d x)(J:Below w.heap.size w w'):ik w' d x:=h.keep (J.block d h.tg.lt) (J.block x.q h.rt.lt)
theorem ik.ne (h:ik w d x):d≠x.q:=h.tg.ne h.rt (by decide)
end
structure cu where
 ws:Nat
 sz:Nat
 last:Nat
 q:Nat
 n:Nat
 f:Int->Option Nat
 g:Nat->Bs
structure bg (B:Nat)(w:World)(s p m:Nat)(S:cu):Prop where
 c0:w.cell? ⟨s,0,none⟩=some (.pointer (some ⟨p,0,none⟩))
 c1:w.cell? ⟨s,1,none⟩=some (.int .i64 S.ws)
 c2:w.cell? ⟨s,2,none⟩=some (.int .i64 S.sz)
 c3:w.cell? ⟨s,3,none⟩=some (.map (some m))
 c4:w.cell? ⟨s,4,none⟩=some (.int .i64 S.last)
 tg:Tag w s 189
 fz:∀o,w.frozen? ⟨s,o,none⟩=false
 bq:gB w m S.q S.f S.n
 k:∀t b,S.f t=some b->ik w b (S.g b)/\B<=b/\B<=(S.g b).q/\1<=t/\t<=S.last/\(S.g b).l.length=S.sz/\1<=(S.g b).n/\(S.g b).n<=16
 inj:∀t t' b,S.f t=some b->S.f t'=some b->t=t'
 rows:∀t t' b b',S.f t=some b->S.f t'=some b'->(S.g b).q=(S.g b').q->b=b'
 ge:B<=s/\B<=m
 oP:1<=S.sz/\S.sz<=64
 vV:S.last<=1000000
def SO (s m:Nat)(S:cu)(j:Nat):Prop:=j=s\/j=m\/(∃t,S.f t=some j)\/∃t b,S.f t=some b/\j=(S.g b).q
section
variable {B:Nat}{w w':World}{s p m:Nat}{S:cu}{e:Nat->Addr}
theorem bg.keep (h:bg B w s p m S) (J:∀j,SO s m S j->w'.heap[j]?=w.heap[j]?):bg B w' s p m S:=by
 have h0:=J s (ε rfl)
 have K:=λj=>η (w:=w) (a:=⟨s,j,none⟩) h0
 exact{h with
  c0:=(K 0).trans h.c0,c1:=(K 1).trans h.c1,c2:=(K 2).trans h.c2,c3:=(K 3).trans h.c3,c4:=(K 4).trans h.c4
  tg:=h.tg.blk h0
  fz:=λo=>(π (w:=w) (a:=⟨s,o,none⟩) h0).trans (h.fz o)
  bq:=h.bq.blk (J m (δ (ε rfl)))
  k:=λt b e=>⟨(h.k t b e).1.keep (J b (δ (δ (ε ⟨t,e⟩)))) (J _ (δ (δ (δ ⟨t,b,e,rfl⟩)))),(h.k t b e).2⟩}
theorem bg.lt (h:bg B w s p m S){j:Nat}(E:SO s m S j):j<w.heap.size/\B<=j:=by
 rcases E with rfl|rfl|⟨t,e⟩|⟨t,b,e,rfl⟩
 ·exact⟨h.tg.lt,h.ge.1⟩
 ·exact⟨h.bq.lt,h.ge.2⟩
 ·exact⟨(h.k t j e).1.tg.lt,(h.k t j e).2.1⟩
 ·exact⟨(h.k t b e).1.rt.lt,(h.k t b e).2.2.1⟩
theorem bg.b (h:bg B w s p m S)(J:Below w.heap.size w w'):bg B w' s p m S:=h.keep λj E=>J.block j (h.lt E).1
theorem bg.low (h:bg B w s p m S):(Lit.int .i64 (S.sz:Int)).wf=true/\(Lit.int .i64 (S.last:Int)).wf=true:=by
 have:=h.oP;have:=h.vV;constructor<;>· simp[Lit.wf,IntKind.min,IntKind.max,IntKind.signed,IntKind.bits];omega
theorem vt (h:bg B w s p m S)(a:Int){n:Int}(hn:(Lit.int .i64 n).wf=true):Calls prog 104 #[.pointer (some ⟨s,0,none⟩),.int .i64 a,.int .i64 n] w λev w'=>ev=.returned (.bool (decide (0<=a/\0<=n/\a<=S.sz-n)))/\w'=w:=by
 have c2:=h.c2;have hz:=h.oP;have J:=bd_i64 hn;generalize S.sz=z at*;clear h hn;by_cases ha:0<=a
 ·have d1:decide (a>=0)=true:=by simpa using ha
  have d1':decide (0<=a)=true:=by simpa using ha
  by_cases h0:0<=n
  ·have d2:decide (n>=0)=true:=by simpa using h0
   have JI:decide (0<=n)=true:=by simpa using h0
   have hw:IntKind.i64.wrap ((z:Int)-n)=z-n:=aB _ (by omega);rw[show decide (0<=a/\0<=n/\a<=(z:Int)-n)=decide (a<=(z:Int)-n) by simp[ha,h0]];go_enter func104,ntmps104;go_wp2;go_ret;exact⟨rfl,rfl⟩
  ·have d2:decide (n>=0)=false:=by simpa using h0
   have JI:decide (0<=n)=false:=by simpa using h0
   rw[show decide (0<=a/\0<=n/\a<=(z:Int)-n)=false by simp[h0]];go_enter func104,ntmps104;go_wp2;go_ret;exact⟨rfl,rfl⟩
 ·have d1:decide (a>=0)=false:=by simpa using ha
  have d1':decide (0<=a)=false:=by simpa using ha
  rw[show decide (0<=a/\0<=n/\a<=(z:Int)-n)=false by simp[ha]];go_enter func104,ntmps104;go_wp2;go_ret;exact⟨rfl,rfl⟩
theorem sW (h:bg B w s p m S):Calls prog 40 #[.pointer (some ⟨s,0,none⟩)] w λev w'=>ev=.returned (.int .i64 S.n)/\w'=w:=by
 have c3:=h.c3;have hl:=λty=>h.bq.len ty;clear h;go_enter func40,ntmps40;go_wp2;go_ret;exact⟨rfl,rfl⟩
theorem IZ (h:bg B w s p m S):Calls prog 45 #[.pointer (some ⟨s,0,none⟩)] w λev w'=>ev=.returned (.int .i64 S.sz)/\w'=w:=by
 have c2:=h.c2;clear h;go_enter func45,ntmps45;go_wp2;go_ret;exact⟨rfl,rfl⟩
theorem oC (h:bg B w s p m S)(he:dM w e){t:Int}(ht:(Lit.int .i64 t).wf=true)(hf:S.f t=none):Calls prog 41 #[.pointer (some ⟨s,0,none⟩),.int .i64 t] w λev w'=>ev=.returned (.tuple #[.int .i64 0,bc (e 3)])/\Below w.heap.size w w':=by
 have c3:=h.c3;have v3:=he.v3;have hl:=h.bq.look ht;rw[hf]at hl;unfold bc L8 at*;clear h he;go_enter func41,ntmps41;go_wp2_with fail;go_quiet (fail);have J:=I (iB (γ w.heap.size w) nq);clear v3 c3 hl;generalize w.drewN nq=W at*;go_wp2;refine Θ (v:=.tuple #[.int .i64 0,.iface 424 (.pointer (some (e 3)))]) (by simp[results,results41,go_sem];try rfl) rfl ?_;exact⟨rfl,Z J⟩
theorem oD (h:bg B w s p m S){t:Int}(ht:(Lit.int .i64 t).wf=true){b:Nat}(hf:S.f t=some b):Calls prog 41 #[.pointer (some ⟨s,0,none⟩),.int .i64 t] w λev w'=>ev=.returned (.tuple #[.int .i64 (S.g b).n,.nilIface])/\Below w.heap.size w w':=by
 have c3:=h.c3;have hl:=h.bq.look ht;have k3:=(h.k t b hf).1.c3;rw[hf]at hl;unfold L8 at*;clear h;go_enter func41,ntmps41;go_wp2;refine Θ (v:=.tuple #[.int .i64 (S.g b).n,.nilIface]) (by simp[results,results41,go_sem];try rfl) rfl ?_;exact⟨rfl,by first|exact γ _ _|exact dw _⟩
theorem tC (h:bg B w s p m S)(he:dM w e){t:Int}(ht:(Lit.int .i64 t).wf=true)(hf:S.f t=none):Calls prog 37 #[.pointer (some ⟨s,0,none⟩),.int .i64 t] w λev w'=>ev=.returned (bc (e 3))/\w'=w:=by
 have c3:=h.c3;have v3:=he.v3;have hl:=h.bq.look ht;rw[hf]at hl;unfold bc L8 at*;clear h he;go_enter func37,ntmps37;go_wp2;go_ret;exact⟨rfl,rfl⟩
theorem tO (h:bg B w s p m S)(he:dM w e){t:Int}(ht:(Lit.int .i64 t).wf=true){b:Nat}(hf:S.f t=some b)(hn:16<=(S.g b).n):Calls prog 37 #[.pointer (some ⟨s,0,none⟩),.int .i64 t] w λev w'=>ev=.returned (bc (e 9))/\w'=w:=by
 have c3:=h.c3;have v9:=he.v9;have hl:=h.bq.look ht;have k3:=(h.k t b hf).1.c3;have d1:decide (((S.g b).n:Int)>=16)=true:=by simp;omega
 have d2:decide ((16:Int)<=((S.g b).n:Int))=true:=by simp;omega
 rw[hf]at hl;unfold bc L8 at*;clear h he;go_enter func37,ntmps37;go_wp2;go_ret;exact⟨rfl,rfl⟩
end
def ma (g:Nat->Bs)(b:Nat)(x:Bs):Nat->Bs:=λj=>if j=b then x else g j
theorem lU (g:Nat->Bs)(b:Nat)(x:Bs):ma g b x b=x:=by simp[ma]
theorem lF {g:Nat->Bs}{b j:Nat}(h:j≠b)(x:Bs):ma g b x j=g j:=by simp[ma,h]
section
variable {B:Nat}{w w':World}{s p m:Nat}{S:cu}{e:Nat->Addr}
theorem bg.BL (h:bg B w s p m S) {t:Int} {b:Nat} (hf:S.f t=some b) {n:Nat} (hn:1<=n/\n<=16):bg B (w.setCell ⟨b,3,none⟩ (.int .i64 n)) s p m {S with g:=ma S.g b {S.g b with n:=n}}:=by
 have J:=(h.k t b hf).1
 have hne:∀j,j≠b->(w.setCell ⟨b,3,none⟩ (.int .i64 (n:Int))).heap[j]?=w.heap[j]?:=λj E=>μ _ _ _ _ E
 have hs:s≠b:=h.tg.ne J.tg (by decide)
 have hm:m≠b:=λe=>by
  obtain⟨o,e1,e2⟩:=h.bq.aQ
  exact aj e1 e2 J.tg e
 have K:=λj=>η (w:=w) (a:=⟨s,j,none⟩) (hne s hs)
 exact{h with
  c0:=(K 0).trans h.c0,c1:=(K 1).trans h.c1,c2:=(K 2).trans h.c2,c3:=(K 3).trans h.c3,c4:=(K 4).trans h.c4
  tg:=h.tg.blk (hne s hs)
  fz:=λo=>(π (w:=w) (a:=⟨s,o,none⟩) (hne s hs)).trans (h.fz o)
  bq:=h.bq.blk (hne m hm)
  k:=λt' b' e=>by
   obtain⟨k1,k2,k3,k4,k5,k6,k7,k8⟩:=h.k t' b' e
   by_cases LP:b'=b
   ·subst LP
    simp only[lU]
    exact⟨⟨(bu (by simp)).trans k1.c0,(bu (by simp)).trans k1.c1,(bu (by simp)).trans k1.c2,fK k1.c3,k1.tg.set _ _,λo=>(Ψ _ _ _ _).trans (k1.fz o),(hne _ k1.ne.symm).trans k1.r⟩,k2,k3,k4,k5,k6,hn⟩
   ·simp only[lF LP]
    exact⟨k1.keep (hne b' LP) (hne _ (k1.rt.ne J.tg (by decide))),k2,k3,k4,k5,k6,k7,k8⟩
  rows:=λt1 t2 b1 b2 e1 e2 hq=>h.rows t1 t2 b1 b2 e1 e2 (by
   have hx:∀j,(ma S.g b {S.g b with n:=n} j).q=(S.g j).q:=λj=>by
    by_cases E:j=b
    ·rw[E,lU]
    ·rw[lF E]
   rw[hx,hx]at hq
   exact hq)}
theorem yR (h:bg B w s p m S){t:Int}(ht:(Lit.int .i64 t).wf=true){b:Nat}(hf:S.f t=some b)(hn:(S.g b).n<16):Calls prog 37 #[.pointer (some ⟨s,0,none⟩),.int .i64 t] w λev w'=>ev=.returned .nilIface/\w'=w.setCell ⟨b,3,none⟩ (.int .i64 ((S.g b).n+1:Nat))/\bg B w' s p m {S with g:=ma S.g b {S.g b with n:=(S.g b).n+1}}:=by
 have hR:=I (h.BL hf (n:=(S.g b).n+1) (by omega));have c3:=h.c3;have hl:=h.bq.look ht;have k3:=(h.k t b hf).1.c3;have f3:=(h.k t b hf).1.fz 3;have d1:decide (((S.g b).n:Int)>=16)=false:=by simp;omega
 have d2:decide ((16:Int)<=((S.g b).n:Int))=false:=by simp;omega
 have hw:IntKind.i64.wrap (((S.g b).n:Int)+1)=((S.g b).n+1:Nat):=by rw[aB _ (by omega)];rfl
 rw[hf]at hl;unfold L8 at*;clear h;go_enter func37,ntmps37;go_wp2;go_ret;exact⟨rfl,rfl,Z hR⟩
theorem tT (h:bg B w s p m S)(he:dM w e){t:Int}(ht:(Lit.int .i64 t).wf=true)(hf:S.f t=none)(a n:Int):Calls prog 38 #[.pointer (some ⟨s,0,none⟩),.int .i64 t,.int .i64 a,.int .i64 n] w λev w'=>ev=.returned (.tuple #[.string ⟨#[]⟩,bc (e 3)])/\Below w.heap.size w w':=by
 have c3:=h.c3;have v3:=he.v3;have hl:=h.bq.look ht;rw[hf]at hl;unfold bc L8 at*;clear h he;go_enter func38,ntmps38;go_wp2_with fail;go_quiet (fail);have J:=I (iB (γ w.heap.size w) nq);clear v3 c3 hl;generalize w.drewN nq=W at*;go_wp2;refine Θ (v:=.tuple #[.string ⟨#[]⟩,.iface 424 (.pointer (some (e 3)))]) (by simp[results,results38,go_sem];try rfl) rfl ?_;exact⟨rfl,Z J⟩
theorem pV (h:bg B w s p m S)(he:dM w e){t:Int}(ht:(Lit.int .i64 t).wf=true){b:Nat}(hf:S.f t=some b)(a:Int){n:Int}(hn:(Lit.int .i64 n).wf=true)(hno:¬(0<=a/\0<=n/\a<=S.sz-n)):Calls prog 38 #[.pointer (some ⟨s,0,none⟩),.int .i64 t,.int .i64 a,.int .i64 n] w λev w'=>ev=.returned (.tuple #[.string ⟨#[]⟩,bc (e 1)])/\Below w.heap.size w w':=by
 have c3:=h.c3;have v1:=he.v1;have hl:=h.bq.look ht;have HC:=I (vt h a hn);rw[dE hno]at HC;rw[hf]at hl;unfold bc L8 at*;clear h he;go_enter func38,ntmps38;go_wp2_with fail;refine(Z HC).mono ?_;rintro ev w1⟨rfl,rfl⟩;clear HC;go_wp2_with fail;go_quiet (fail);have J:=I (iB (γ w1.heap.size w1) nq);clear v1 c3 hl;generalize w1.drewN nq=W at*;go_wp2;refine Θ (v:=.tuple #[.string ⟨#[]⟩,.iface 424 (.pointer (some (e 1)))]) (by simp[results,results38,go_sem];try rfl) rfl ?_;exact⟨rfl,Z J⟩
theorem oF (h:bg B w s p m S){t:Int}(ht:(Lit.int .i64 t).wf=true){b:Nat}(hf:S.f t=some b){a n:Nat}(hle:a+n<=S.sz):Calls prog 38 #[.pointer (some ⟨s,0,none⟩),.int .i64 t,.int .i64 a,.int .i64 n] w λev w'=>ev=.returned (.tuple #[.string ⟨(((S.g b).l.drop a).take n).toArray⟩,.nilIface])/\w'=w:=by
 have hz:=h.oP;have hn:(Lit.int .i64 (n:Int)).wf=true:=by simp[Lit.wf,IntKind.min,IntKind.max,IntKind.signed,IntKind.bits];omega
 have c3:=h.c3;have hl:=h.bq.look ht;have HC:=I (vt h a hn);rw[aM (show 0<=(a:Int)/\0<=(n:Int)/\(a:Int)<=S.sz-n by omega)]at HC;obtain⟨k1,_,_,_,_,k6,_⟩:=h.k t b hf;have k2:=k1.c2;unfold yJ at k2;rw[k6]at k2;have hw:IntKind.i64.wrap ((a:Int)+n)=(a:Int)+n:=aB _ (by omega);have hcv:∀q cap,(∀j,j<n->w.cell? ((q:Addr).add j)=(Lib.byteCells (S.g b).l)[a+j]?)->(convert 80 9 (.slice (some q) n cap)).run prog w=.ok (.string ⟨(((S.g b).l.drop a).take n).toArray⟩) w:=λq cap hq=>by
  have hlen:(((S.g b).l.drop a).take n).length=n:=by simp;omega
  have:=run_convert_bytes_back (P:=prog) w 80 9 5 q cap (((S.g b).l.drop a).take n) underlying80 underlying5 underlying9 (λj E=>by
   have hj':j<n:=by rw[hlen]at E;exact E
   rw[hq j hj'];simp[Lib.byteCells];exact⟨_,ξ (by omega),rfl⟩)
  rw[hlen]at this;exact this
 have hr:∀j,w.cell? ⟨(S.g b).q,j,none⟩=(Lib.byteCells (S.g b).l)[j]?:=λj=>by
  unfold World.cell?;rw[k1.r];simp
 rw[hf]at hl;unfold L8 at*;generalize S.sz=z at*;generalize(S.g b).q=q at*;clear h k1 k6 hf;by_cases ha:z=a
 ·subst ha;obtain rfl:n=0:=by omega
  simp only[List.take_zero]at*;go_enter func38,ntmps38;go_wp2_with fail;refine(Z HC).mono ?_;rintro ev w1⟨rfl,rfl⟩;clear HC;go_wp2;refine Θ (v:=.tuple #[.string ⟨(([]:List UInt8)).toArray⟩,.nilIface]) (by simp[results,results38,go_sem];try rfl) rfl ?_;exact⟨rfl,rfl⟩
 ·have ha':¬a=z:=λe=>ha e.symm;go_enter func38,ntmps38;go_wp2_with fail;refine(Z HC).mono ?_;rintro ev w1⟨rfl,rfl⟩;clear HC;go_wp2;refine Θ (v:=.tuple #[.string ⟨(((S.g b).l.drop a).take n).toArray⟩,.nilIface]) (by simp[results,results38,go_sem];try rfl) rfl ?_;exact⟨rfl,rfl⟩
end
def nu (l:List UInt8)(a:Nat)(t:List UInt8):List UInt8:=l.take a++t++l.drop (a+t.length)
theorem sH {l:List UInt8}{a:Nat}{t:List UInt8}(h:a+t.length<=l.length):(nu l a t).length=l.length:=by
 simp[nu];omega
section
variable {B:Nat}{w w':World}{s p m:Nat}{S:cu}{e:Nat->Addr}
theorem bg.DD (h:bg B w s p m S) {t:Int} {b:Nat} (hf:S.f t=some b) {l:List UInt8} (hl:l.length=S.sz):bg B (w.setRow (S.g b).q (Lib.byteCells l).toArray) s p m {S with g:=ma S.g b {S.g b with l:=l}}:=by
 have J:=(h.k t b hf).1
 have hne:∀j,j≠(S.g b).q->(w.setRow (S.g b).q (Lib.byteCells l).toArray).heap[j]?=w.heap[j]?:=λj E=>setRow_other _ _ _ _ E
 have hs:s≠(S.g b).q:=h.tg.ne J.rt (by decide)
 have hm:m≠(S.g b).q:=λe=>by
  obtain⟨o,e1,e2⟩:=h.bq.aQ
  exact aj e1 e2 J.rt e
 have K:=λj=>η (w:=w) (a:=⟨s,j,none⟩) (hne s hs)
 exact{h with
  c0:=(K 0).trans h.c0,c1:=(K 1).trans h.c1,c2:=(K 2).trans h.c2,c3:=(K 3).trans h.c3,c4:=(K 4).trans h.c4
  tg:=h.tg.blk (hne s hs)
  fz:=λo=>(π (w:=w) (a:=⟨s,o,none⟩) (hne s hs)).trans (h.fz o)
  bq:=h.bq.blk (hne m hm)
  k:=λt' b' e=>by
   obtain⟨k1,k2,k3,k4,k5,k6,k7⟩:=h.k t' b' e
   by_cases LP:b'=b
   ·subst LP
    simp only[lU]
    have hd:=λj=>η (w:=w) (a:=⟨b',j,none⟩) (hne b' k1.ne)
    refine⟨⟨(hd 0).trans k1.c0,(hd 1).trans k1.c1,(hd 2).trans (k1.c2.trans ?_),(hd 3).trans k1.c3,k1.tg.blk (hne b' k1.ne),λo=>(π (w:=w) (a:=⟨b',o,none⟩) (hne b' k1.ne)).trans (k1.fz o),setRow_heap _ _ _ _ _ _ k1.r⟩,k2,k3,k4,k5,hl,k7⟩
    simp only[yJ,k6,hl]
   ·simp only[lF LP]
    exact⟨k1.keep (hne b' (k1.tg.ne J.rt (by decide))) (hne _ (λe2=>LP (h.rows t' t b' b e hf e2))),k2,k3,k4,k5,k6,k7⟩
  rows:=λt1 t2 b1 b2 e1 e2 hq=>h.rows t1 t2 b1 b2 e1 e2 (by
   have hx:∀j,(ma S.g b {S.g b with l:=l} j).q=(S.g j).q:=λj=>by
    by_cases E:j=b
    ·rw[E,lU]
    ·rw[lF E]
   rw[hx,hx]at hq
   exact hq)}
theorem pY (h:bg B w s p m S)(he:dM w e){t:Int}(ht:(Lit.int .i64 t).wf=true)(hf:S.f t=none)(a:Int)(x:ByteArray):Calls prog 36 #[.pointer (some ⟨s,0,none⟩),.int .i64 t,.int .i64 a,.string x] w λev w'=>ev=.returned (bc (e 3))/\w'=w:=by
 have c3:=h.c3;have v3:=he.v3;have hl:=h.bq.look ht;rw[hf]at hl;unfold bc L8 at*;clear h he;go_enter func36,ntmps36;go_wp2;go_ret;exact⟨rfl,rfl⟩
theorem oW (h:bg B w s p m S)(he:dM w e){t:Int}(ht:(Lit.int .i64 t).wf=true){b:Nat}(hf:S.f t=some b)(a:Int)(x:ByteArray)(hx:(Lit.int .i64 (x.size:Int)).wf=true)(hno:¬(0<=a/\a<=S.sz-x.size)):Calls prog 36 #[.pointer (some ⟨s,0,none⟩),.int .i64 t,.int .i64 a,.string x] w λev w'=>ev=.returned (bc (e 1))/\w'=w:=by
 have c3:=h.c3;have v1:=he.v1;have hl:=h.bq.look ht;have HC:=I (vt h a hx);rw[dE (λq=>hno ⟨q.1,q.2.2⟩)]at HC;rw[hf]at hl;unfold bc L8 at*;clear h he;go_enter func36,ntmps36;go_wp2_with fail;refine(Z HC).mono ?_;rintro ev w1⟨rfl,rfl⟩;clear HC;go_wp2;go_ret;exact⟨rfl,rfl⟩
theorem p9 (h:bg B w s p m S)(he:dM w e){t:Int}(ht:(Lit.int .i64 t).wf=true){b:Nat}(hf:S.f t=some b)(hn:1<(S.g b).n){a:Nat}(x:ByteArray)(hle:a+x.size<=S.sz):Calls prog 36 #[.pointer (some ⟨s,0,none⟩),.int .i64 t,.int .i64 a,.string x] w λev w'=>ev=.returned (bc (e 5))/\w'=w:=by
 have hz:=h.oP;have hx:(Lit.int .i64 (x.size:Int)).wf=true:=by simp[Lit.wf,IntKind.min,IntKind.max,IntKind.signed,IntKind.bits];omega
 have c3:=h.c3;have v5:=he.v5;have hl:=h.bq.look ht;have k3:=(h.k t b hf).1.c3;have HC:=I (vt h a hx);rw[aM (show 0<=(a:Int)/\0<=(x.size:Int)/\(a:Int)<=S.sz-x.size by omega)]at HC;have d1:decide (((S.g b).n:Int)>1)=true:=by simp;omega
 have d2:decide ((1:Int)<((S.g b).n:Int))=true:=by simp;omega
 rw[hf]at hl;unfold bc L8 at*;clear h he;go_enter func36,ntmps36;go_wp2_with fail;refine(Z HC).mono ?_;rintro ev w1⟨rfl,rfl⟩;clear HC;go_wp2;go_ret;exact⟨rfl,rfl⟩
theorem o6 (h:bg B w s p m S){t:Int}(ht:(Lit.int .i64 t).wf=true){b:Nat}(hf:S.f t=some b)(hn:(S.g b).n=1){a:Nat}(x:ByteArray)(hle:a+x.size<=S.sz):Calls prog 36 #[.pointer (some ⟨s,0,none⟩),.int .i64 t,.int .i64 a,.string x] w λev w'=>ev=.returned .nilIface/\w'=w.setRow (S.g b).q (Lib.byteCells (nu (S.g b).l a x.data.toList)).toArray/\bg B w' s p m {S with g:=ma S.g b {S.g b with l:=nu (S.g b).l a x.data.toList}}:=by
 have hz:=h.oP;have hx:(Lit.int .i64 (x.size:Int)).wf=true:=by simp[Lit.wf,IntKind.min,IntKind.max,IntKind.signed,IntKind.bits];omega
 have OI:x.data.toList.length=x.size:=(Lib.size_eq x).symm;have k6:=(h.k t b hf).2.2.2.2.2.1;have HR:=I (h.DD hf (l:=nu (S.g b).l a x.data.toList) (by rw[sH (by rw[OI,k6];exact hle),k6]));have c3:=h.c3;have hl:=h.bq.look ht;have k3:=(h.k t b hf).1.c3;have k2:=(h.k t b hf).1.c2;have hr:=(h.k t b hf).1.r;have HC:=I (vt h a hx);rw[aM (show 0<=(a:Int)/\0<=(x.size:Int)/\(a:Int)<=S.sz-x.size by omega)]at HC;have d1:decide (((S.g b).n:Int)>1)=false:=by simp;omega
 have d2:decide ((1:Int)<((S.g b).n:Int))=false:=by simp;omega
 have hcp:∀ty,(Builtin.copy_ #[80,9] ty #[.slice (some ⟨(S.g b).q,a,none⟩) (S.sz-a) (S.sz-a),.string x]).run prog w=.ok (goInt x.size) (w.setRow (S.g b).q (Lib.byteCells (nu (S.g b).l a x.data.toList)).toArray):=λty=>by
  rw[Lib.run_copy_row_string w 80 9 ty 5 (S.g b).q a (S.sz-a) (S.sz-a) x _ 5 underlying80 (by kernel_rfl) hr (by omega) (by simp[Lib.byteCells,k6];omega)];simp[nu,Lib.byteCells,List.map_take,List.map_drop,OI]
 have hself:a=S.sz->w.setRow (S.g b).q (Lib.byteCells (nu (S.g b).l a x.data.toList)).toArray=w:=λha=>by
  have hx0:x.data.toList=[]:=bf.1 (by rw[OI];omega);have:nu (S.g b).l a x.data.toList=(S.g b).l:=by
   rw[hx0,ha,<- k6];simp[nu]
  rw[this];exact setRow_self w _ _ 5 (0,0) hr
 have hcz:a=S.sz->∀ty d,(Builtin.copy_ #[80,9] ty #[.slice d 0 0,.string x]).run prog w=.ok (goInt 0) w:=λha ty d=>Lib.run_copy_empty_string w 80 9 ty 5 d 0 0 x underlying80 (by kernel_rfl) (by omega);rw[hf]at hl;unfold yJ at k2;rw[k6]at k2;generalize y8:w.setRow (S.g b).q (Lib.byteCells (nu (S.g b).l a x.data.toList)).toArray=ll at*;unfold L8 at*;by_cases ha:a=S.sz
 ·have hs:=hself ha;have hc0:=hcz ha;rw[hs]at HR ⊢;subst ha;clear h k6 hself hcz hcp y8 hr hs hf OI;go_enter func36,ntmps36;go_wp2_with fail;refine(Z HC).mono ?_;rintro ev w1⟨rfl,rfl⟩;clear HC;go_wp2_with (at_builtin;refine Lib.wpList_copy_run _ rfl _ _ 80 9 rfl _ _ rfl rfl (hc0 _ _) ?_);go_ret;exact⟨rfl,rfl,Z HR⟩
 ·have ha':¬S.sz=a:=λe=>ha e.symm;clear h k6 hself hcz y8 hr hf OI;go_enter func36,ntmps36;go_wp2_with fail;refine(Z HC).mono ?_;rintro ev w1⟨rfl,rfl⟩;clear HC;go_wp2_with (at_builtin;refine Lib.wpList_copy_run _ rfl _ _ 80 9 rfl _ _ rfl rfl (hcp _) ?_);go_ret;exact⟨rfl,rfl,Z HR⟩
end
def nC (w:World)(Y ws sz:Nat):World:=(w.alloc (.map #[] 0)).alloc (.cells #[.pointer (some ⟨Y,0,none⟩),.int .i64 ws,.int .i64 sz,.map (some w.heap.size),.int .i64 0] 189)
def Bj (ws sz:Nat):cu:=⟨ws,sz,0,0,0,λ_=>none,λ_=>⟨(0,0),[],0,0⟩⟩
section
variable {B:Nat}{w w':World}{Y d n c:Nat}{p:Option Addr}
theorem vY (w:World)(Y ws sz:Nat):Below w.heap.size w (nC w Y ws sz):=χ (χ (γ _ _) _) _
theorem za (w:World) (Y ws:Nat) {sz:Nat} (hz:1<=sz/\sz<=64) (hB:B<=w.heap.size):bg B (nC w Y ws sz) (w.heap.size+1) Y w.heap.size (Bj ws sz):=by
 have q':=θ (w.alloc (.map #[] 0)) #[.pointer (some ⟨Y,0,none⟩),.int .i64 ws,.int .i64 sz,.map (some w.heap.size),.int .i64 0] 189
 have hs:(w.alloc (.map #[] 0)).heap.size=w.heap.size+1:=by simp
 rw[hs]at q'
 exact{
  c0:=q' 0,c1:=q' 1,c2:=q' 2,c3:=q' 3,c4:=q' 4
  tg:=by
   have:=bB (w.alloc (.map #[] 0)) #[.pointer (some ⟨Y,0,none⟩),.int .i64 ws,.int .i64 sz,.map (some w.heap.size),.int .i64 0] 189
   rwa [hs]at this
  fz:=λo=>aG _ _ (w.heap.size+1) o hs.symm
  bq:=(gB.made w).b (χ (γ _ _) _)
  k:=λt b h=>(by cases h)
  inj:=λt t' b h=>(by cases h)
  rows:=λt t' b b' h=>(by cases h)
  ge:=⟨by omega,hB⟩
  oP:=hz
  vV:=by show 0<=1000000;omega}
theorem MV (h0:w.cell? ⟨Y,0,none⟩=some (.pointer (some ⟨d,0,none⟩)))(h:w.cell? ⟨d,1,none⟩=some (.slice p n c)){sz:Nat}(hz:1<=sz/\sz<=64):Calls prog 44 #[.pointer (some ⟨Y,0,none⟩),.int .i64 sz] w λev w'=>ev=.returned (.tuple #[.pointer (some ⟨w.heap.size+1,0,none⟩),.nilIface])/\w'=nC w Y n sz:=by
 have HC:=I (yo h0 h);have d1:decide ((sz:Int)<1)=false:=by simp;omega
 have d2:decide ((sz:Int)>64)=false:=by simp;omega
 have d3:decide ((64:Int)<(sz:Int))=false:=by simp;omega
 have f_:=@run_makeMap prog;unfold nC;clear h0 h;go_enter func44,ntmps44;go_wp2_with fail;refine(Z HC).mono ?_;rintro ev w1⟨rfl,rfl⟩;clear HC;go_wp2;refine Θ (v:=.tuple #[.pointer (some ⟨w1.heap.size+1,0,none⟩),.nilIface]) (by simp[results,results44,go_sem];try rfl) rfl ?_;exact⟨rfl,rfl⟩
end
abbrev j_:List TypeId:=[189,192,5]
def qa (N m:Nat)(w:World)(b:Nat):Prop:=N<=b/\((∃κ,Tag w b κ/\κ∈j_)\/b=m)
def gM (X:Nat->Option Obj)(m:Nat)(w:World):Nat->Option Obj:=λj=>if j=m then w.heap[m]? else X j
section
variable {B:Nat}{C:Dc}{ab7:Nat->Prop}{X:Nat->Option Obj}{Y F ym m:Nat}{S:Ds}{P:Ps}{w w':World}{s:Nat}{S':Ds}{P':Ps}{ax Z':cu}{V':Nat->Prop}{e:Nat->Addr}
theorem PD.Dx (h:PD B C ab7 X Y F ym S P w)(D:Kp (qa C.w0.heap.size m w) w w')(hm:∃o,X m=some o)(sB:∃o,w'.heap[m]?=some o/\kind o=none):PD B C ab7 (gM X m w') Y F ym S P w':=by
 have hxm:m≠F/\m≠ym:=by
  obtain⟨o,e⟩:=hm;constructor
  ·rintro rfl;rw[h.xt.1]at e;cases e
  ·rintro rfl;rw[h.xt.2]at e;cases e
 have hx2:∃o,X2 F ym X w m=some o:=by
  obtain⟨o,e⟩:=hm;exact⟨o,by unfold X2;rw[ai (λq=>q.elim hxm.1 hxm.2),e]⟩
 obtain⟨o0,ho0⟩:=hx2;obtain⟨em,jE⟩:=h.k.map ho0;have FZ:∀κ∈j_,κ≠34/\κ∉Si/\κ≠3/\κ≠144:=by decide
 have wN:∀b,PB Y F ym P b->¬qa C.w0.heap.size m w b:=λb J hv=>by
  rcases hv with⟨_,⟨κ,JV,hs⟩|rfl⟩
  ·obtain⟨n1,_,n3,n4⟩:=FZ κ hs;rcases J with rfl|rfl|rfl|J|J
   ·exact JV.ne h.m.tg n4 rfl
   ·obtain⟨o,e1,e2⟩:=h.m.t.aQ;exact aj e1 e2 JV rfl
   ·obtain⟨o,e1,e2⟩:=h.m.y.aQ;exact aj e1 e2 JV rfl
   ·exact JV.ne (ay h.m.r J).1 n1 rfl
   ·exact JV.ne (ay h.m.l J).1 n3 rfl
  ·rcases J with rfl|rfl|rfl|J|J
   ·exact aj em jE h.m.tg rfl
   ·exact hxm.1 rfl
   ·exact hxm.2 rfl
   ·exact aj em jE (ay h.m.r J).1 rfl
   ·exact aj em jE (ay h.m.l J).1 rfl
 have hs:∀b,PB Y F ym P b->w'.heap[b]?=w.heap[b]?:=λb J=>D.blk b (h.m.lt J).1 (wN b J);have hno:∀b κ,Tag w b κ->κ∉j_->¬qa C.w0.heap.size m w b:=λb κ ht hn hv=>by
  rcases hv with⟨_,⟨H8,JV,hs⟩|rfl⟩
  ·exact JV.ne ht (λe=>hn (e▸hs)) rfl
  ·exact aj em jE ht rfl
 have hNR:NR C.z C.k (qa C.w0.heap.size m w) w:=by
  intro g c i h' d e1 e2 hi hv;obtain⟨g2,c2,rows,e3,o2,r2⟩:=h.k.dz.cf;rw[e3]at e1;simp only[τ,ψ,av,bI,aZ]at e1;obtain⟨rfl,rfl⟩:=e1;obtain⟨O,d2,e4,o3⟩:=r2 i hi;rw[(o2.cellAt i (by omega)).trans e4]at e2;simp only[τ,ψ,av,bI,aZ]at e2;obtain⟨rfl,rfl⟩:=e2;exact hno _ 3 (fV o3) (by decide) hv
 have hK:DK C (λj=>ab7 j\/OB P.vr j) (X2 F ym (gM X m w') w') S w':=by
  refine h.k.iV D hNR (λb J=>J.1) (λb J=>?_) (λb o e=>?_) (λj E=>?_)
  ·rcases J with⟨_,⟨κ,JV,hs⟩|rfl⟩
   ·exact δ (δ ⟨κ,JV,(FZ κ hs).1,(FZ κ hs).2.1⟩)
   ·exact δ (ε ⟨o0,ho0⟩)
  ·by_cases U1:b=m
   ·subst U1;unfold X2 at e;rw[ai (λq=>q.elim hxm.1 hxm.2)]at e;unfold gM at e;rw[af rfl]at e;obtain⟨o',e1,e2⟩:=sB;rw[e1]at e;cases e
    exact⟨e1,e2,ε ⟨o0,ho0⟩⟩
   ·have e':X2 F ym X w b=some o:=by
     unfold X2 at e ⊢;by_cases J:b=F\/b=ym
     ·rw[af J]at e ⊢;rw[<- e];rcases J with rfl|rfl
      ·exact(hs b (δ (ε rfl))).symm
      ·exact(hs b (δ (δ (ε rfl)))).symm
     ·rw[ai J]at e ⊢;unfold gM at e;rwa [ai U1]at e
    obtain⟨e1,e2⟩:=h.k.map e';refine⟨(D.blk b (Array.getElem?_eq_some_iff.mp e1).1 (λhv=>?_)).trans e1,e2,ε ⟨o,e'⟩⟩;rcases hv with⟨_,⟨κ,JV,_⟩|rfl⟩
    ·exact aj e1 e2 JV rfl
    ·exact U1 rfl
  ·rcases E with E|E
   ·exact⟨(h.iH j E).blk (D.blk j (h.uu j E) (hno j 34 (h.iH j E) (by decide))),ε (ε E)⟩
   ·exact⟨(ay h.m.r E).1.blk (hs j (δ (δ (δ (ε E))))),ε (δ E)⟩
 refine⟨hK,h.m.keep hs,h.nr.keep h.k.dz (λc t hm K=>D.blk c K.lt (hno c t K ?_)) (λj E=>ε E),h.dj,?_,h.hB⟩
 ·simp only[ae,aR,dg]at hm;rcases hm with rfl|rfl<;>decide
 ·unfold gM;rw[ai hxm.1.symm,ai hxm.2.symm];exact h.xt
theorem PD.F7 (h:PD B C ab7 X Y F ym S P w)(J:Below w.heap.size w w')(oG:w.heap.size<=m)(sB:∃o,w'.heap[m]?=some o/\kind o=none):PD B C ab7 (gM X m w') Y F ym S P w':=by
 have G:=h.b J;have hlt:∀b,PB Y F ym P b->b≠m:=λb hp e=>by have:=(h.m.lt hp).1;omega
 have ht:=hlt F (δ (ε rfl));have hy:=hlt ym (δ (δ (ε rfl)));have hK:DK C (λj=>ab7 j\/OB P.vr j) (X2 F ym (gM X m w') w') S w':=by
  refine h.k.iV (T:=λ_=>False) (Kp.below J) (λ_ _ _ _ _ _ _ _ q=>q) (λ_ q=>q.elim) (λ_ q=>q.elim) (λb o e=>?_) (λj E=>?_)
  ·by_cases U1:b=m
   ·subst U1;unfold X2 at e;rw[ai (λq=>q.elim (λe=>ht e.symm) (λe=>hy e.symm))]at e;unfold gM at e;rw[af rfl]at e;obtain⟨o',e1,e2⟩:=sB;rw[e1]at e;cases e
    exact⟨e1,e2,δ oG⟩
   ·have e':X2 F ym X w b=some o:=by
     unfold X2 at e ⊢;by_cases hq:b=F\/b=ym
     ·rw[af hq]at e ⊢;rw[<- e];rcases hq with rfl|rfl
      ·exact(J.block b h.m.t.lt).symm
      ·exact(J.block b h.m.y.lt).symm
     ·rw[ai hq]at e ⊢;unfold gM at e;rwa [ai U1]at e
    obtain⟨e1,e2⟩:=h.k.map e';exact⟨(J.block b (Array.getElem?_eq_some_iff.mp e1).1).trans e1,e2,ε ⟨o,e'⟩⟩
  ·rcases E with E|E
   ·exact⟨G.iH j E,ε (ε E)⟩
   ·exact⟨(ay G.m.r E).1,ε (δ E)⟩
 refine⟨hK,G.m,G.nr,G.dj,?_,G.hB⟩;unfold gM;rw[ai ht,ai hy];exact h.xt
structure bR (B:Nat)(C:Dc)(ab7:Nat->Prop)(X:Nat->Option Obj)(Y F ym:Nat)(S:Ds)(P:Ps)(s m:Nat)(ax:cu)(w:World):Prop where
 d:PD B C ab7 X Y F ym S P w
 k:bg B w s Y m ax
 x:X m=w.heap[m]?
theorem bR.b (h:bR B C ab7 X Y F ym S P s m ax w)(J:Below w.heap.size w w'):bR B C ab7 X Y F ym S P s m ax w':=⟨h.d.b J,h.k.b J,h.x.trans (J.block m h.k.bq.lt).symm⟩
theorem bR.pool (h:bR B C ab7 X Y F ym S P s m ax w)(hd:PD B C ab7 X Y F ym S' P' w')(hf:PF ab7 P P' w w'):bR B C ab7 X Y F ym S' P' s m ax w':=by
 have hxm:w'.heap[m]?=w.heap[m]?:=by
  obtain⟨o,e1,e2⟩:=h.k.bq.aQ;have hx:=h.x.trans e1;have O:X2 F ym X w' m=some o:=by
   unfold X2;rw[ai,hx];rintro(rfl|rfl)
   ·rw[h.d.xt.1]at hx;cases hx
   ·rw[h.d.xt.2]at hx;cases hx
  exact(hd.k.map O).1.trans e1.symm
 refine⟨hd,h.k.keep λj E=>?_,h.x.trans hxm.symm⟩;rcases E with rfl|rfl|⟨t,e⟩|⟨t,b,e,rfl⟩
 ·exact hf.s j 189 (by decide) h.k.tg
 ·exact hxm
 ·exact hf.s j 192 (by decide) (h.k.k t j e).1.tg
 ·exact hf.s _ 5 (by decide) (h.k.k t b e).1.rt
theorem bR.own (h:bR B C ab7 X Y F ym S P s m ax w)(D:Kp (qa C.w0.heap.size m w) w w')(hZ:bg B w' s Y m Z'):bR B C ab7 (gM X m w') Y F ym S P s m Z' w':=by
 obtain⟨o,e1,e2⟩:=hZ.bq.aQ;obtain⟨o0,f1,f2⟩:=h.k.bq.aQ;exact⟨h.d.Dx D ⟨o0,h.x.trans f1⟩ ⟨o,e1,e2⟩,hZ,by unfold gM;rw[af rfl]⟩
theorem bR.start (h:PD B C ab7 X Y F ym S P w)(hB:B<=w.heap.size)(ws:Nat){sz:Nat}(hz:1<=sz/\sz<=64):bR B C ab7 (gM X w.heap.size (nC w Y ws sz)) Y F ym S P (w.heap.size+1) w.heap.size (Bj ws sz) (nC w Y ws sz):=by
 have hs:=za w Y ws hz hB;obtain⟨o,e1,e2⟩:=hs.bq.aQ;exact⟨h.F7 (vY w Y ws sz) (ζ _) ⟨o,e1,e2⟩,hs,by unfold gM;rw[af rfl]⟩
theorem bR.more (h:bR B C ab7 X Y F ym S P s m ax w)(J:Below w.heap.size w w'){b:Nat}(hw:w.heap.size<=b)(ht:Tag w' b 34):bR B C (λj=>ab7 j\/j=b) X Y F ym S P s m ax w':=⟨h.d.more J hw ht,h.k.b J,h.x.trans (J.block m h.k.bq.lt).symm⟩
theorem bR.less (h:bR B C ab7 X Y F ym S P s m ax w)(hv:∀j,V' j->ab7 j):bR B C V' X Y F ym S P s m ax w:=⟨h.d.less hv,h.k,h.x⟩
theorem bR.h_ (h:bR B C ab7 X Y F ym S P s m ax w){b:Nat}(J:ab7 b)(o:Nat)(v:Value):bR B C ab7 X Y F ym S P s m ax (w.setCell ⟨b,o,none⟩ v):=by
 have ht:=h.d.iH b J;have hne:∀j,j≠b->(w.setCell ⟨b,o,none⟩ v).heap[j]?=w.heap[j]?:=λj E=>μ _ _ _ _ E;have hm:m≠b:=λq=>by
  obtain⟨o',e1,e2⟩:=h.k.bq.aQ;exact aj e1 e2 ht q
 refine⟨h.d.h_ J o v,h.k.keep λj E=>hne j ?_,h.x.trans (hne m hm).symm⟩;rcases E with rfl|rfl|⟨t,e⟩|⟨t,b',e,rfl⟩
 ·exact h.k.tg.ne ht (by decide)
 ·exact hm
 ·exact(h.k.k t j e).1.tg.ne ht (by decide)
 ·exact(h.k.k t b' e).1.rt.ne ht (by decide)
end
section
variable {B:Nat}{w w':World}{s p m:Nat}{S:cu}{e:Nat->Addr}
theorem bg.last (h:bg B w s p m S) {n:Nat} (hn:S.last<=n/\n<=1000000):bg B (w.setCell ⟨s,4,none⟩ (.int .i64 n)) s p m {S with last:=n}:=by
 have hne:∀j,j≠s->(w.setCell ⟨s,4,none⟩ (.int .i64 (n:Int))).heap[j]?=w.heap[j]?:=λj E=>μ _ _ _ _ E
 have hm:m≠s:=λq=>by
  obtain⟨o',e1,e2⟩:=h.bq.aQ
  exact aj e1 e2 h.tg q
 exact{h with
  c0:=(bu (by simp)).trans h.c0,c1:=(bu (by simp)).trans h.c1,c2:=(bu (by simp)).trans h.c2,c3:=(bu (by simp)).trans h.c3,c4:=fK h.c4
  tg:=h.tg.set _ _
  fz:=λo=>(Ψ _ _ _ _).trans (h.fz o)
  bq:=h.bq.blk (hne m hm)
  k:=λt b e=>by
   obtain⟨k1,k2,k3,k4,k5,k6⟩:=h.k t b e
   exact⟨k1.keep (hne b (k1.tg.ne h.tg (by decide))) (hne _ (k1.rt.ne h.tg (by decide))),k2,k3,k4,by show t<=(n:Int);omega,k6⟩
  vV:=hn.2}
theorem bg.put (h:bg B w s p m S) {t:Nat} (ht:1<=t/\t<=S.last) (hft:S.f t=none) {b:Nat} {x:Bs} (J:ik w b x) (hB:B<=b/\B<=x.q) (hl:x.l.length=S.sz) (hn:1<=x.n/\x.n<=16) (gY:∀t' b',S.f t'=some b'->b'≠b/\(S.g b').q≠x.q) (hq:S.q<maxLen):
  ∃w',(Instr.mapUpdate 187 (.map (some m)) (.int .i64 t) (.pointer (some ⟨b,0,none⟩))).run prog w=.ok () w'/\bg B w' s p m {S with q:=S.q+1,n:=S.n+1,f:=mE S.f t (some b),g:=ma S.g b x}/\Kept m m w w':=by
 have hw:(Lit.int .i64 (t:Int)).wf=true:=by
  have:=h.vV
  simp[Lit.wf,IntKind.min,IntKind.max,IntKind.signed,IntKind.bits];omega
 obtain⟨w',hr,hm,D⟩:=h.bq.put hq hw hft b
 obtain⟨o,e1,e2⟩:=h.bq.aQ
 have hne:∀j κ,Tag w j κ->w'.heap[j]?=w.heap[j]?:=λj κ E=>D.block j E.lt (λq=>aj e1 e2 E q.symm) (λq=>aj e1 e2 E q.symm)
 have K:=λj=>η (w:=w) (a:=⟨s,j,none⟩) (hne s _ h.tg)
 have hbk:ik w' b x:=J.keep (hne _ _ J.tg) (hne _ _ J.rt)
 refine⟨w',hr,?_,D⟩
 exact{h with
  c0:=(K 0).trans h.c0,c1:=(K 1).trans h.c1,c2:=(K 2).trans h.c2,c3:=(K 3).trans h.c3,c4:=(K 4).trans h.c4
  tg:=h.tg.blk (hne s _ h.tg)
  fz:=λo=>(π (w:=w) (a:=⟨s,o,none⟩) (hne s _ h.tg)).trans (h.fz o)
  bq:=hm
  k:=λt' b' e=>by
   by_cases htt:t'=t
   ·subst htt
    simp only[l8,τ]at e
    subst e
    simp only[lU]
    exact⟨hbk,hB.1,hB.2,by omega,by have:=ht.2;show(t:Int)<=(S.last:Int);omega,hl,hn⟩
   ·simp only[l5 htt]at e
    obtain⟨k1,k2⟩:=h.k t' b' e
    simp only[lF (gY t' b' e).1]
    exact⟨k1.keep (hne _ _ k1.tg) (hne _ _ k1.rt),k2⟩
  inj:=λt1 t2 b' e1 e2=>by
   by_cases G:t1=t<;>by_cases O:t2=t
   ·rw[G,O]
   ·subst G
    simp only[l8,τ]at e1
    simp only[l5 O]at e2
    exact absurd e1.symm (gY t2 b' e2).1
   ·subst O
    simp only[l8,τ]at e2
    simp only[l5 G]at e1
    exact absurd e2.symm (gY t1 b' e1).1
   ·simp only[l5 G]at e1
    simp only[l5 O]at e2
    exact h.inj t1 t2 b' e1 e2
  rows:=λt1 t2 b1 b2 e1 e2 hqq=>by
   by_cases G:t1=t<;>by_cases O:t2=t
   ·subst G;subst O
    rw[e1]at e2
    exact ah e2
   ·subst G
    simp only[l8,τ]at e1
    simp only[l5 O]at e2
    subst e1
    simp only[lU,lF (gY t2 b2 e2).1]at hqq
    exact absurd hqq.symm (gY t2 b2 e2).2
   ·subst O
    simp only[l8,τ]at e2
    simp only[l5 G]at e1
    subst e2
    simp only[lU,lF (gY t1 b1 e1).1]at hqq
    exact absurd hqq (gY t1 b1 e1).2
   ·simp only[l5 G]at e1
    simp only[l5 O]at e2
    simp only[lF (gY t1 b1 e1).1,lF (gY t2 b2 e2).1]at hqq
    exact h.rows t1 t2 b1 b2 e1 e2 hqq}
end
theorem BN:(prog.info? 5).map (λi=>(i.zero,i.size,i.bytes))=some (some (.int .u8 0),1,1):=by kernel_rfl
theorem nD (n:Nat)(hn:n<=64)(W:World):(Instr.makeSlice 80 (.int .i64 (n:Int)) (.int .i64 (n:Int))).run prog W=.ok (.slice (some ⟨W.heap.size,0,none⟩) n n) (W.alloc (.cells (Lib.byteCells (List.replicate n 0)).toArray 5)):=by
 obtain⟨i0,h0,hz0,hz1,hz2⟩:=aY BN;have:=run_makeSlice (P:=prog) W 80 5 i0 (.int .u8 0) underlying80 h0 hz0 .i64 .i64 n n (by omega) (by omega) (by rw[hz1];simp;omega) (by rw[hz2];omega) (by omega);rw[hz1]at this;have e:madeCells (Value.int .u8 0).cells n=(Lib.byteCells (List.replicate n 0)).toArray:=by
  apply Array.ext';rw[show(Value.int .u8 0).cells=#[Value.int .u8 0]from rfl,toList_madeCells_one];simp[Lib.byteCells]
 rw[<- e];simpa using this
section
variable {B:Nat}{w w':World}{s p m:Nat}{S:cu}{e:Nat->Addr}
theorem ug (h:bg B w s p m S)(he:dM w e){t:Int}(ht:(Lit.int .i64 t).wf=true)(hf:S.f t=none)(x:Int):Calls prog 42 #[.pointer (some ⟨s,0,none⟩),.int .i64 x,.int .i64 t] w λev w'=>ev=.returned (bc (e 3))/\w'=w:=by
 have c3:=h.c3;have v3:=he.v3;have hl:=h.bq.look ht;rw[hf]at hl;unfold bc L8 at*;clear h he;go_enter func42,ntmps42;go_wp2;go_ret;exact⟨rfl,rfl⟩
theorem qc (h:bg B w s p m S)(he:dM w e){t:Int}(ht:(Lit.int .i64 t).wf=true){b:Nat}(hf:S.f t=some b){x:Int}(hx:¬(0<=x/\x<S.ws)):Calls prog 42 #[.pointer (some ⟨s,0,none⟩),.int .i64 x,.int .i64 t] w λev w'=>ev=.returned (bc (e 1))/\w'=w:=by
 have c3:=h.c3;have c1:=h.c1;have v1:=he.v1;have hl:=h.bq.look ht;rw[hf]at hl;generalize S.ws=k at*;unfold bc L8 at*;clear h he;by_cases h0:x<0
 ·have d1:decide (x<0)=true:=by simpa using h0
  go_enter func42,ntmps42;go_wp2;go_ret;exact⟨rfl,rfl⟩
 ·have d1:decide (x<0)=false:=by simpa using h0
  have d2:decide (x>=(k:Int))=true:=by simp;omega
  have d3:decide ((k:Int)<=x)=true:=by simp;omega
  go_enter func42,ntmps42;go_wp2;go_ret;exact⟨rfl,rfl⟩
theorem ui (h:bg B w s p m S){t:Int}(ht:(Lit.int .i64 t).wf=true){b:Nat}(hf:S.f t=some b){x:Int}(hx:0<=x/\x<S.ws)(hn:1<(S.g b).n):Calls prog 42 #[.pointer (some ⟨s,0,none⟩),.int .i64 x,.int .i64 t] w λev w'=>ev=.returned .nilIface/\w'=w.setCell ⟨b,3,none⟩ (.int .i64 (((S.g b).n:Int)-1))/\bg B w' s p m {S with g:=ma S.g b {S.g b with n:=(S.g b).n-1}}:=by
 have abc:=(h.k t b hf).2.2.2.2.2.2.2;have e1:(((S.g b).n-1:Nat):Int)=((S.g b).n:Int)-1:=by omega
 have hS:=h.BL hf (n:=(S.g b).n-1) ⟨by omega,by omega⟩;rw[e1]at hS;have hR:=I hS;have c3:=h.c3;have c1:=h.c1;have hl:=h.bq.look ht;have k3:=(h.k t b hf).1.c3;have f3:=(h.k t b hf).1.fz 3;have d1:decide (x<0)=false:=by simp;omega
 have d2:decide (x>=(S.ws:Int))=false:=by simp;omega
 have d3:decide ((S.ws:Int)<=x)=false:=by simp;omega
 have hw:IntKind.i64.wrap (((S.g b).n:Int)-1)=((S.g b).n:Int)-1:=aB _ (by omega);have KN:(w.setCell ⟨b,3,none⟩ (.int .i64 (((S.g b).n:Int)-1))).cell? ⟨b,3,none⟩=some (.int .i64 (((S.g b).n:Int)-1)):=fK k3;have d4:((((S.g b).n:Int)-1)==0)=false:=by simp;omega
 have d5:decide ((((S.g b).n:Int)-1)=0)=false:=by simp;omega
 rw[hf]at hl;unfold L8 at*;clear h hS hx hn abc;go_enter func42,ntmps42;go_wp2;go_ret;exact⟨rfl,rfl,Z hR⟩
theorem vZ (h:bg B w s p m S)(he:dM w e){t:Int}(ht:(Lit.int .i64 t).wf=true)(hf:S.f t=none)(x y:Int):Calls prog 39 #[.pointer (some ⟨s,0,none⟩),.int .i64 x,.int .i64 y,.int .i64 t] w λev w'=>ev=.returned (.tuple #[.int .i64 0,bc (e 3)])/\Below w.heap.size w w':=by
 have c3:=h.c3;have v3:=he.v3;have hl:=h.bq.look ht;rw[hf]at hl;unfold bc L8 at*;clear h he;go_enter func39,ntmps39;go_wp2_with fail;go_quiet (fail);have J:=I (iB (γ w.heap.size w) nq);clear v3 c3 hl;generalize w.drewN nq=W at*;go_wp2;refine Θ (v:=.tuple #[.int .i64 0,.iface 424 (.pointer (some (e 3)))]) (by simp[results,results39,go_sem];try rfl) rfl ?_;exact⟨rfl,Z J⟩
theorem zb (h:bg B w s p m S){t:Int}(ht:(Lit.int .i64 t).wf=true){b:Nat}(hf:S.f t=some b)(hn:(S.g b).n=1)(x y:Int):Calls prog 39 #[.pointer (some ⟨s,0,none⟩),.int .i64 x,.int .i64 y,.int .i64 t] w λev w'=>ev=.returned (.tuple #[.int .i64 t,.nilIface])/\w'=w:=by
 have c3:=h.c3;have hl:=h.bq.look ht;have k3:=(h.k t b hf).1.c3;rw[hn]at k3;rw[hf]at hl;unfold L8 at*;clear h;go_enter func39,ntmps39;go_wp2;refine Θ (v:=.tuple #[.int .i64 t,.nilIface]) (by simp[results,results39,go_sem];try rfl) rfl ?_;exact⟨rfl,rfl⟩
end
theorem qh {w:World}{b d:Nat}{x y:Bs}(J:ik w b x)(hd:ik w d y)(hl:x.l.length=y.l.length)(ty:TypeId):(Builtin.copy_ #[80,80] ty #[yJ y,yJ x]).run prog w=.ok (goInt x.l.length) (w.setRow y.q (Lib.byteCells x.l).toArray):=by
 have K:=Lib.byteCells_length x.l;have hc2:=Lib.byteCells_length y.l;have:=run_copy_row (P:=prog) w 80 80 ty 5 y.q 0 y.l.length y.l.length ⟨x.q,0,none⟩ x.l.length x.l.length _ 5 (Lib.byteCells x.l) underlying80 (by kernel_rfl) hd.r (by rw[K,hl];simp) (λj v E=>by
  have e:(⟨x.q,0,none⟩:Addr).add j=⟨x.q,j,none⟩:=by simp[Addr.add];intro q;exact q.symm
  rw[e];unfold World.cell?;rw[J.r];simpa using E) (by simp[K,hc2];omega) (Lib.byteCells_one _)
 unfold yJ;rw[this];have Gi:List.drop y.l.length (Lib.byteCells y.l)=[]:=List.drop_of_length_le (by omega);simp[K,hl,Gi]
theorem BQ (g:Nat->Bs)(b:Nat)(x y:Bs):ma (ma g b x) b y=ma g b y:=by
 funext j;by_cases h:j=b
 ·rw[h,lU,lU]
 ·rw[lF h,lF h,lF h]
abbrev jP:List TypeId:=[252,253,38,333,291,140,302,305,4,164,185,32,258,241,64,167,90,93,91,208,209,220,205,234,237,316,51,86,114,9,29,147]
structure FR (P P':Ps)(w w':World):Prop where
 s:eh jP w w'
 l:∀k,Tag w k 3->¬OB P.vl k->w'.heap[k]?=w.heap[k]?
 z:w.heap.size<=w'.heap.size
 l':∀j,OB P'.vl j->OB P.vl j\/w.heap.size<=j
section
variable {ab7:Nat->Prop}{P P' P1 P2:Ps}{w w' w1:World}{N m:Nat}
theorem PF.fr (h:PF ab7 P P' w w'):FR P P' w w':=⟨λb t hm ht=>h.s b t ((by decide:∀t∈jP,t∈Ug) t hm) ht,h.l,h.z,h.l'⟩
theorem FR.below (J:Below w.heap.size w w'):FR P P w w':=⟨eo J,λk D _=>J.block k D.lt,J.size,λ_ h=>ε h⟩
theorem FR.trans (h:FR P P1 w w1)(k:FR P1 P2 w1 w'):FR P P2 w w':=by
 refine⟨rJ h.s k.s,λj E hn=>?_,σ h.z k.z,λj E=>?_⟩
 ·have e:=h.l j E hn;refine(k.l j (E.blk e) (λho=>?_)).trans e;rcases h.l' j ho with G|G
  ·exact hn G
  ·have:=E.lt;omega
 ·rcases k.l' j E with G|G
  ·exact h.l' j G
  ·exact δ (σ h.z G)
theorem FR.own (D:Kp (qa N m w) w w')(hm:∃o,w.heap[m]?=some o/\kind o=none):FR P P w w':=by
 have hn:∀j κ,Tag w j κ->κ∉j_->w'.heap[j]?=w.heap[j]?:=λj κ E h=>D.blk j E.lt (λJ=>by
  rcases J.2 with⟨H8,G,O⟩|rfl
  ·exact E.ne G (λq=>h (q▸O)) rfl
  ·obtain⟨o,e1,e2⟩:=hm;exact aj e1 e2 E rfl)
 exact⟨λb t sB ht=>hn b t ht ((by decide:∀t∈jP,t∉j_) t sB),λk nB _=>hn k 3 nB (by decide),D.size,λ_ h=>ε h⟩
end
end Pl
end Go.Proofs.YtcbmfakjfoggaaaGreatDoor
