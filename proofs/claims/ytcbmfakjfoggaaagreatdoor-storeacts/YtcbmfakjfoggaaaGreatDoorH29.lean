/- H29 -/
import Derived.Test.YtcbmfakjfoggaaaGreatDoorA0
import Derived.Test.YtcbmfakjfoggaaaGreatDoorH24
set_option maxHeartbeats 0
set_option maxRecDepth 100000
namespace Go.Proofs.YtcbmfakjfoggaaaGreatDoor
open _root_.Go.Proofs.Tryz Go.RowKit Go.Maps
namespace Pl
open Fr Bd Zn Dz Sb Mg
structure Rs where
 most:Nat
 R:List Bl
 T:List Bl
 L:List Nat
 ab6:List (Nat×Bl)
 last:Nat
 cl:Bool
 vR:Value
 vT:Value
 vL:Value
 vY:Value
def fB (ab6:List (Nat×Bl)):List Value:=ab6.flatMap λp=>[.int .i64 (p.1:Int),.int .i64 p.2.1,.int .i64 p.2.2]
structure jW (B:Nat)(w:World)(Y rd:Nat)(R:Rs):Prop where
 c0:w.cell? ⟨Y,0,none⟩=some (.pointer (some ⟨rd,0,none⟩))
 c1:w.cell? ⟨Y,1,none⟩=some (.int .i64 R.most)
 c2:w.cell? ⟨Y,2,none⟩=some R.vR
 c3:w.cell? ⟨Y,3,none⟩=some R.vT
 c4:w.cell? ⟨Y,4,none⟩=some R.vL
 c5:w.cell? ⟨Y,5,none⟩=some R.vY
 c6:w.cell? ⟨Y,6,none⟩=some (.int .i64 R.last)
 c7:w.cell? ⟨Y,7,none⟩=some (.bool R.cl)
 tg:Tag w Y 64
 fz:∀o,w.frozen? ⟨Y,o,none⟩=false
 r:w.ownsRow B 34 2 R.vR R.R.length (flat R.R)
 t:w.ownsRow B 34 2 R.vT R.T.length (flat R.T)
 l:w.ownsRow B 3 1 R.vL R.L.length (dX R.L)
 y:w.ownsRow B 167 3 R.vY R.ab6.length (fB R.ab6)
 dj:∀j,OB R.vR j->¬OB R.vT j
 ge:B<=Y
def RB (Y:Nat)(R:Rs)(b:Nat):Prop:=b=Y\/OB R.vR b\/OB R.vT b\/OB R.vL b\/OB R.vY b
section
variable {B:Nat}{w w':World}{Y rd:Nat}{R:Rs}
theorem jW.keep (h:jW B w Y rd R)(J:∀b,RB Y R b->w'.heap[b]?=w.heap[b]?):jW B w' Y rd R:=by
 have hp:=J Y (ε rfl);have K:=λj=>η (w:=w) (a:=⟨Y,j,none⟩) hp;exact⟨(K 0).trans h.c0,(K 1).trans h.c1,(K 2).trans h.c2,(K 3).trans h.c3,(K 4).trans h.c4,(K 5).trans h.c5,(K 6).trans h.c6,(K 7).trans h.c7,h.tg.blk hp,λo=>(π (w:=w) (a:=⟨Y,o,none⟩) hp).trans (h.fz o),aI h.r (λg hg=>J g (δ (ε hg))),aI h.t (λg hg=>J g (δ (δ (ε hg)))),aI h.l (λg hg=>J g (δ (δ (δ (ε hg))))),aI h.y (λg hg=>J g (δ (δ (δ (δ hg))))),h.dj,h.ge⟩
theorem jW.lt (h:jW B w Y rd R){b:Nat}(J:RB Y R b):b<w.heap.size/\B<=b:=by
 rcases J with rfl|e|e|e|e
 ·exact⟨h.tg.lt,h.ge⟩
 ·exact⟨(ay h.r e).1.lt,(ay h.r e).2⟩
 ·exact⟨(ay h.t e).1.lt,(ay h.t e).2⟩
 ·exact⟨(ay h.l e).1.lt,(ay h.l e).2⟩
 ·exact⟨(ay h.y e).1.lt,(ay h.y e).2⟩
theorem jW.b (h:jW B w Y rd R)(J:Below w.heap.size w w'):jW B w' Y rd R:=h.keep λb hp=>J.block b (h.lt hp).1
theorem jW.Xq (h:jW B w Y rd R)(J:∀b,b=Y\/OB R.vR b\/OB R.vT b\/OB R.vY b->w'.heap[b]?=w.heap[b]?){v':Value}{L':List Nat}(ho:w'.ownsRow B 3 1 v' L'.length (dX L')):jW B (w'.setCell ⟨Y,4,none⟩ v') Y rd {R with L:=L',vL:=v'}:=by
 have hp:=J Y (ε rfl);have K:=λj=>η (w:=w) (a:=⟨Y,j,none⟩) hp;have nt:=h.tg.blk hp;have os:∀{e size n:Nat} {u:Value} {xs:List Value},w'.ownsRow B e size u n xs->e≠64->(w'.setCell ⟨Y,4,none⟩ v').ownsRow B e size u n xs:=λho hne=>aI ho (λ_ hg=>μ _ _ _ _ ((ay ho hg).1.ne nt hne));have hr:w'.ownsRow B 34 2 R.vR R.R.length (flat R.R):=aI h.r (λg hg=>J g (δ (ε hg)));have ht:w'.ownsRow B 34 2 R.vT R.T.length (flat R.T):=aI h.t (λg hg=>J g (δ (δ (ε hg))));have hy:w'.ownsRow B 167 3 R.vY R.ab6.length (fB R.ab6):=aI h.y (λg hg=>J g (δ (δ (δ hg))));exact⟨(bu (by simp)).trans ((K 0).trans h.c0),(bu (by simp)).trans ((K 1).trans h.c1),(bu (by simp)).trans ((K 2).trans h.c2),(bu (by simp)).trans ((K 3).trans h.c3),fK ((K 4).trans h.c4),(bu (by simp)).trans ((K 5).trans h.c5),(bu (by simp)).trans ((K 6).trans h.c6),(bu (by simp)).trans ((K 7).trans h.c7),nt.set _ _,λo=>by rw[Ψ];exact(π (w:=w) (a:=⟨Y,o,none⟩) hp).trans (h.fz o),os hr (by decide),os ht (by decide),os ho (by decide),os hy (by decide),h.dj,h.ge⟩
theorem jW.Fi (h:jW B w Y rd R)(J:∀b,b=Y\/OB R.vT b\/OB R.vL b\/OB R.vY b->w'.heap[b]?=w.heap[b]?){v':Value}{R':List Bl}(ho:w'.ownsRow B 34 2 v' R'.length (flat R'))(hd:∀j,OB v' j->¬OB R.vT j):jW B (w'.setCell ⟨Y,2,none⟩ v') Y rd {R with R:=R',vR:=v'}:=by
 have hp:=J Y (ε rfl);have K:=λj=>η (w:=w) (a:=⟨Y,j,none⟩) hp;have nt:=h.tg.blk hp;have os:∀{e size n:Nat} {u:Value} {xs:List Value},w'.ownsRow B e size u n xs->e≠64->(w'.setCell ⟨Y,2,none⟩ v').ownsRow B e size u n xs:=λho hne=>aI ho (λ_ hg=>μ _ _ _ _ ((ay ho hg).1.ne nt hne));have ht:w'.ownsRow B 34 2 R.vT R.T.length (flat R.T):=aI h.t (λg hg=>J g (δ (ε hg)));have hl:w'.ownsRow B 3 1 R.vL R.L.length (dX R.L):=aI h.l (λg hg=>J g (δ (δ (ε hg))));have hy:w'.ownsRow B 167 3 R.vY R.ab6.length (fB R.ab6):=aI h.y (λg hg=>J g (δ (δ (δ hg))));exact⟨(bu (by simp)).trans ((K 0).trans h.c0),(bu (by simp)).trans ((K 1).trans h.c1),fK ((K 2).trans h.c2),(bu (by simp)).trans ((K 3).trans h.c3),(bu (by simp)).trans ((K 4).trans h.c4),(bu (by simp)).trans ((K 5).trans h.c5),(bu (by simp)).trans ((K 6).trans h.c6),(bu (by simp)).trans ((K 7).trans h.c7),nt.set _ _,λo=>by rw[Ψ];exact(π (w:=w) (a:=⟨Y,o,none⟩) hp).trans (h.fz o),os ho (by decide),os ht (by decide),os hl (by decide),os hy (by decide),hd,h.ge⟩
theorem jW.NS (h:jW B w Y rd R)(J:∀b,b=Y\/OB R.vR b\/OB R.vL b\/OB R.vY b->w'.heap[b]?=w.heap[b]?){v':Value}{T':List Bl}(ho:w'.ownsRow B 34 2 v' T'.length (flat T'))(hd:∀j,OB R.vR j->¬OB v' j):jW B (w'.setCell ⟨Y,3,none⟩ v') Y rd {R with T:=T',vT:=v'}:=by
 have hp:=J Y (ε rfl);have K:=λj=>η (w:=w) (a:=⟨Y,j,none⟩) hp;have nt:=h.tg.blk hp;have os:∀{e size n:Nat} {u:Value} {xs:List Value},w'.ownsRow B e size u n xs->e≠64->(w'.setCell ⟨Y,3,none⟩ v').ownsRow B e size u n xs:=λho hne=>aI ho (λ_ hg=>μ _ _ _ _ ((ay ho hg).1.ne nt hne));have hr:w'.ownsRow B 34 2 R.vR R.R.length (flat R.R):=aI h.r (λg hg=>J g (δ (ε hg)));have hl:w'.ownsRow B 3 1 R.vL R.L.length (dX R.L):=aI h.l (λg hg=>J g (δ (δ (ε hg))));have hy:w'.ownsRow B 167 3 R.vY R.ab6.length (fB R.ab6):=aI h.y (λg hg=>J g (δ (δ (δ hg))));exact⟨(bu (by simp)).trans ((K 0).trans h.c0),(bu (by simp)).trans ((K 1).trans h.c1),(bu (by simp)).trans ((K 2).trans h.c2),fK ((K 3).trans h.c3),(bu (by simp)).trans ((K 4).trans h.c4),(bu (by simp)).trans ((K 5).trans h.c5),(bu (by simp)).trans ((K 6).trans h.c6),(bu (by simp)).trans ((K 7).trans h.c7),nt.set _ _,λo=>by rw[Ψ];exact(π (w:=w) (a:=⟨Y,o,none⟩) hp).trans (h.fz o),os hr (by decide),os ho (by decide),os hl (by decide),os hy (by decide),hd,h.ge⟩
theorem jW.AZ (h:jW B w Y rd R)(J:∀b,b=Y\/OB R.vR b\/OB R.vT b\/OB R.vL b->w'.heap[b]?=w.heap[b]?){v':Value}{Y':List (Nat×Bl)}(ho:w'.ownsRow B 167 3 v' Y'.length (fB Y')):jW B (w'.setCell ⟨Y,5,none⟩ v') Y rd {R with ab6:=Y',vY:=v'}:=by
 have hp:=J Y (ε rfl);have K:=λj=>η (w:=w) (a:=⟨Y,j,none⟩) hp;have nt:=h.tg.blk hp;have os:∀{e size n:Nat} {u:Value} {xs:List Value},w'.ownsRow B e size u n xs->e≠64->(w'.setCell ⟨Y,5,none⟩ v').ownsRow B e size u n xs:=λho hne=>aI ho (λ_ hg=>μ _ _ _ _ ((ay ho hg).1.ne nt hne));have hr:w'.ownsRow B 34 2 R.vR R.R.length (flat R.R):=aI h.r (λg hg=>J g (δ (ε hg)));have ht:w'.ownsRow B 34 2 R.vT R.T.length (flat R.T):=aI h.t (λg hg=>J g (δ (δ (ε hg))));have hl:w'.ownsRow B 3 1 R.vL R.L.length (dX R.L):=aI h.l (λg hg=>J g (δ (δ (δ hg))));exact⟨(bu (by simp)).trans ((K 0).trans h.c0),(bu (by simp)).trans ((K 1).trans h.c1),(bu (by simp)).trans ((K 2).trans h.c2),(bu (by simp)).trans ((K 3).trans h.c3),(bu (by simp)).trans ((K 4).trans h.c4),fK ((K 5).trans h.c5),(bu (by simp)).trans ((K 6).trans h.c6),(bu (by simp)).trans ((K 7).trans h.c7),nt.set _ _,λo=>by rw[Ψ];exact(π (w:=w) (a:=⟨Y,o,none⟩) hp).trans (h.fz o),os hr (by decide),os ht (by decide),os hl (by decide),os ho (by decide),h.dj,h.ge⟩
theorem jW.Sj (h:jW B w Y rd R)(n:Nat):jW B (w.setCell ⟨Y,6,none⟩ (.int .i64 n)) Y rd {R with last:=n}:=by
 have os:∀{e size n':Nat} {u:Value} {xs:List Value},w.ownsRow B e size u n' xs->e≠64->(w.setCell ⟨Y,6,none⟩ (.int .i64 n)).ownsRow B e size u n' xs:=λho hne=>aI ho (λ_ hg=>μ _ _ _ _ ((ay ho hg).1.ne h.tg hne));exact⟨(bu (by simp)).trans h.c0,(bu (by simp)).trans h.c1,(bu (by simp)).trans h.c2,(bu (by simp)).trans h.c3,(bu (by simp)).trans h.c4,(bu (by simp)).trans h.c5,fK h.c6,(bu (by simp)).trans h.c7,h.tg.set _ _,λo=>by rw[Ψ];exact h.fz o,os h.r (by decide),os h.t (by decide),os h.l (by decide),os h.y (by decide),h.dj,h.ge⟩
end
section
variable {B:Nat}{w w':World}{Y rd:Nat}{R:Rs}
theorem yM (h:jW B w Y rd R)(hB:B<=w.heap.size)(hl:R.L.length<8)(kV:R.last<1000000000000):
  Calls prog 90 #[.pointer (some ⟨Y,0,none⟩)] w λev w'=>ev=.returned (.int .i64 8)/\∃kj,jW B w' Y rd {R with L:=R.L++[R.last+1],last:=R.last+1,vL:=kj}/\Kp (λb=>b=Y\/OB R.vL b) w w'/\∀j,OB kj j->OB R.vL j\/w.heap.size<=j:=by
 obtain⟨i0,eO,hz0,hz1,hz2⟩:=aY info3;have HI:=I eO;have HZ:=I hz0;have eI:=I hz1;have eJ:=I hz2;obtain⟨p,c,hv⟩:=aX h.l;have c4:=h.c4;have c6:=h.c6;have f6:=h.fz 6;have f4:=h.fz 4;rw[hv]at c4;have d1:decide ((R.L.length:Int)>=8)=false:=by simp;omega
 have d2:decide ((8:Int)<=(R.L.length:Int))=false:=by simp;omega
 have rf:IntKind.i64.wrap ((R.last:Int)+1)=((R.last:Int)+1):=aB _ (by omega);have wN:=h.ge;have hlt:=h.tg.lt;have S1:=h.Sj (R.last+1);rw[show((R.last+1:Nat):Int)=(R.last:Int)+1 from by omega]at S1;have K1:=I (Kp.set (S:=λb=>b=Y\/OB R.vL b) w Y 6 (.int .i64 ((R.last:Int)+1)) (ε rfl));have Pn:=I S1;have x4:=S1.c4;have x6:=S1.c6;have xf:=S1.fz 4;have aaO:(w.setCell ⟨Y,6,none⟩ (.int .i64 ((R.last:Int)+1))).heap.size<=w.heap.size:=by simp[World.setCell]
 have hsz:w.heap.size<=(w.setCell ⟨Y,6,none⟩ (.int .i64 ((R.last:Int)+1))).heap.size:=by simp[World.setCell]
 have Nt:=I S1.tg;have xl:=S1.l;have HV:=I hv;simp only at x4 x6 xl;rw[hv]at x4 xl;clear h eO hz0 hz1 hz2 S1 kV hv;generalize hn:R.L.length=n at*;go_enter func90,ntmps90;go_upto_region 4 with(fail);generalize w.setCell ⟨Y,6,none⟩ (.int .i64 ((R.last:Int)+1))=W1 at*;have BA:Below W1.heap.size W1 (W1.alloc (.cells #[.int .i64 ((R.last:Int)+1)] 3)).drew:=(χ (γ _ _) _).drew;have iE:=aN xl BA;have hNb:B<=(W1.alloc (.cells #[.int .i64 ((R.last:Int)+1)] 3)).drew.heap.size:=σ (by omega) BA.size;have ir:=(Z Nt).b BA;have Ed:=(Z Nt).lt;have j9:=(BA.cell (p:=⟨Y,4,none⟩) Ed).trans x4;have j_:=(BA.frozen (p:=⟨Y,4,none⟩) Ed).trans xf;go_region_law (refine bX _ rfl (.tmp 20) (.tmp 25) 38 rfl B 3 i0 (.int .i64 0) 1 8 underlying38 (Z HI) (Z HZ) (Z eI) (Z eJ) rfl (by decide) (.slice p n c) n (dX R.L) (by simp[Act.eval]) iE ⟨W1.heap.size,0,none⟩ 1 1 [.int .i64 ((R.last:Int)+1)] (by simp[Act.eval]) rfl (by intro j u E;match j,E with|0,E=>(simp at E;subst E;simp[Addr.add])) (by intro u hu;simp at hu;subst hu;rfl) (by omega) (by unfold maxLen;omega) (by omega) hNb _ rfl ?_;intro g4 Fh w4 o4 q4 hg4 kE;have e4:=q4.block Y ir.lt (d_ iE ir (by decide));have sQ:w4.cell? ⟨Y,4,none⟩=some (.slice p n c):=(η (a:=⟨Y,4,none⟩) e4).trans j9;have ue:w4.frozen? ⟨Y,4,none⟩=false:=(π (a:=⟨Y,4,none⟩) e4).trans j_);all_goals
  have WE:=(Kp.below (S:=λb=>b=Y\/OB R.vL b) BA);have hK2:Kp (λb=>b=Y\/OB R.vL b) (W1.alloc (.cells #[.int .i64 ((R.last:Int)+1)] 3)).drew w4:=⟨q4.os,q4.tape,q4.output,q4.size,λk D hn=>q4.block k D (λe=>hn (δ (by rw[Z HV];exact e.symm)))⟩;have hS:=Z Pn;have hne:∀b,b=Y\/OB R.vR b\/OB R.vT b\/OB R.vY b->w4.heap[b]?=W1.heap[b]?:=λb J=>by
   have WG:RB Y {R with last:=R.last+1} b:=by
    rcases J with h|h|h|h
    ·exact ε h
    ·exact δ (ε h)
    ·exact δ (δ (ε h))
    ·exact δ (δ (δ (δ h)))
   have hbl:=(hS.lt WG).1;refine(q4.block b (ι hbl BA.size) (λe=>?_)).trans (BA.block b hbl);have ho:=ay xl (b:=b) e.symm;rcases J with h|h|h|h
   ·exact(ho.1.ne (Z Nt) (by decide)) h
   ·exact(ho.1.ne (ay hS.r h).1 (by decide)) rfl
   ·exact(ho.1.ne (ay hS.t h).1 (by decide)) rfl
   ·exact(ho.1.ne (ay hS.y h).1 (by decide)) rfl
  have ui:w4.ownsRow B 3 1 (.slice (some ⟨g4,0,none⟩) (n+1) Fh) (R.L++[R.last+1]).length (dX (R.L++[R.last+1])):=by
   rw[φ,hn,yi,show((R.last+1:Nat):Int)=(R.last:Int)+1 from by omega];exact o4
  have hF:=I (hS.Xq hne ui);have hKK:=I ((((Z K1).trans WE).trans hK2).trans (Kp.set (S:=λb=>b=Y\/OB R.vL b) w4 Y 4 (.slice (some ⟨g4,0,none⟩) (n+1) Fh) (ε rfl)));have hG:Hid (∀j,OB (.slice (some ⟨g4,0,none⟩) (n+1) Fh) j->OB R.vL j\/w.heap.size<=j):=λj E=>by
   obtain rfl:g4=j:=by simpa[OB,Value.ownBlock]using E
   rcases hg4 with h|h
   ·exact ε (by rw[Z HV];exact h)
   ·right;have G:=BA.size;have O:=(Z K1).size;omega
  clear WE hK2 hne ui hS o4 q4 hg4 kE e4 j9 j_ iE BA ir hNb Pn Nt K1 x4 x6 xf xl HI HZ eI eJ HV;go_wp2;go_ret;exact⟨rfl,_,Z hF,Z hKK,Z hG⟩
end
end Pl
end Go.Proofs.YtcbmfakjfoggaaaGreatDoor
