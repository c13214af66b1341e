/- H06 -/
import Derived.Test.YtcbmfakjfoggaaaGreatDoorA0
import Derived.Test.YtcbmfakjfoggaaaGreatDoorH00
import Derived.Test.YtcbmfakjfoggaaaGreatDoorH02
set_option maxHeartbeats 0
set_option maxRecDepth 100000
namespace Go.Proofs.YtcbmfakjfoggaaaGreatDoor
open Go.Maps _root_.Go.Proofs.Tryz Go.RowKit
namespace Fr
theorem QJ (a k : Int) : (a % pw k != 0) = !al a k := by
  have h := cy k
  unfold al
  generalize pw k = d at *
  have := Int.mul_ediv_add_emod a d
  have e : a / d * d = d * (a / d) := Int.mul_comm _ _
  rw [e]
  by_cases h0 : a % d = 0
  · rw [show d * (a / d) = a from by omega]; simp [h0]
  · have G : ¬ d * (a / d) = a := by omega
    have e1 : (a % d != 0) = true := by simpa using h0
    have e2 : (d * (a / d) == a) = false := by simpa using G
    rw [e1, e2]; rfl
theorem Eg (a k:Int)(h0:0<=a)(G:a<256)(k0:0<=k)(k5:k<=5):0<=a/pw (k+1)*pw (k+1)/\a/pw (k+1)*pw (k+1)<=256:=by
 rcases orders k k0 (by omega)with rfl|rfl|rfl|rfl|rfl|rfl|rfl
 all_goals first|omega|(simp only[Int.reduceAdd,Ol,Om,Oo,GI,GJ,Qx];omega)
theorem zO (a k:Int)(w:World)(h0:0<=a)(G:a<256)(k0:0<=k)(k5:k<=5):
  Calls prog 285 #[.agg #[.int .i64 a,.int .i64 k]] w λev w'=>ev=.returned (fJ (par a k) (k+1))/\Below w.heap.size w w':=by
 have hf:=Eg a k h0 G k0 k5;have hx:par a k=a/pw (k+1)*pw (k+1):=rfl;have hd:=cy (k+1);have H:=λw=>I (iN (k+1) w (by omega) (by omega));generalize pw (k+1)=d at*;generalize hy:a/d*d=y at*;have HX:=I hx;have HY:=I hy;clear hx hy;have uV:=Z HY;go_enter func285,ntmps285;go_wp2_with (go_at_call 249;refine(Z (H _)).mono ?_;rintro ev w'⟨rfl,rfl⟩);go_region
 go_wp2_with fail;exact Θ (v:=fJ (par a k) (k+1)) (by simp[results,results285,go_sem,Z HX]) rfl ⟨rfl,by repeat (first|exact γ _ _|refine Below.drew ?_|refine χ ?_ _|refine Below.setCell ?_ (by simp) _)⟩
theorem LD (a k:Int)(_h0:0<=a)(_h1:a<256)(k0:0<=k)(k5:k<=5)(ha:al a k=true):Lf a k=if par a k=a then a+pw k else par a k:=by
 rw[zE]at ha;unfold Lf par;rcases orders k k0 (by omega)with rfl|rfl|rfl|rfl|rfl|rfl|rfl
 all_goals first|omega|skip
 all_goals
  simp only[Int.reduceAdd,UC,Ol,Om,Oo,GI,GJ,Qx]at*;split<;>split<;>omega
theorem LG (x:Int)(h0:0<=x)(G:x<=1000000):IntKind.i64.wrap x=x:=by rw[IntKind.wrap_i64];omega
theorem Eh (a k:Int)(w:World)(h0:0<=a)(G:a<256)(k0:0<=k)(k5:k<=5)(ha:al a k=true):
  Calls prog 264 #[.agg #[.int .i64 a,.int .i64 k]] w λev w'=>ev=.returned (fJ (Lf a k) k)/\Below w.heap.size w w':=by
 have GZ:=LD a k h0 G k0 k5 ha;have H:=λw=>I (iN k w k0 (by omega));have HP:=λw=>I (zO a k w h0 G k0 k5);have hd:=cy k;have Lm:=Ou k k0 k5;generalize par a k=q at*;generalize pw k=d at*;by_cases c:q=a
 ·rw[af c]at GZ;subst c;rw[GZ];clear GZ ha;have hwr:=LG (q+d) (by omega) (by omega);go_enter func264,ntmps264;go_wp2_with fail;refine(Z (HP _)).mono ?_;rintro ev w1⟨rfl,b1⟩;have t1:=(((oM w q k).a (bV 0 0)).b b1).a (bV q (k+1));have r1:Li w1 (w.heap.size+1) 0 0:=by simpa using(oM (w.alloc (bV q k)) 0 0).b b1
  have z1:∀j,(w1.alloc (bV q (k+1))).frozen? ⟨w.heap.size+1,j,none⟩=false:=λj=>by
   rw[bT w1 _ ⟨w.heap.size+1,j,none⟩ (by have:=r1.lt;simp;omega),b1.frozen (p:=⟨w.heap.size+1,j,none⟩) (by simp)];simp
  have y2:=(r1.a (bV q (k+1))).c0;have y3:=(r1.a (bV q (k+1))).c1;have fW:Below w.heap.size w (w1.alloc (bV q (k+1))):=χ (bW (χ (χ (γ _ _) _) _) b1) _;have s1:=r1.lt;have u0:=λo=>((((oM w q k).a (bV 0 0)).b b1).a o).c0;have u1:=λo=>((((oM w q k).a (bV 0 0)).b b1).a o).c1;clear r1 b1;go_wp2_with fail;have y0:=t1.c0;have y1:=t1.c1;have y4:=z1 0;have y5:=z1 1;clear u0 u1 z1 t1;generalize w1.alloc (bV q (k+1))=W at*;go_region_held3 (λw'=>w'.cell? ⟨w.heap.size,0,none⟩=some (.int .i64 q)/\w'.cell? ⟨w.heap.size,1,none⟩=some (.int .i64 k)) (go_keep) ((go_at_call 249;refine(Z (H _)).mono ?_;rintro ev w'⟨rfl,rfl⟩));go_wp2_with fail;exact Θ (v:=fJ (q+d) k) (by simp[results,results264,go_sem,y2,y3]) rfl ⟨rfl,((fW.setCell (by simp) _).setCell (by simp) _).drew⟩
 ·rw[ai c]at GZ;rw[GZ];have hne:(q==a)=false:=by simpa using c
  clear GZ ha c;go_enter func264,ntmps264;go_wp2_with fail;refine(Z (HP _)).mono ?_;rintro ev w1⟨rfl,b1⟩;have t1:=(((oM w a k).a (bV 0 0)).b b1);have r1:Li w1 (w.heap.size+1) 0 0:=by simpa using(oM (w.alloc (bV a k)) 0 0).b b1
  have z1:∀j,w1.frozen? ⟨w.heap.size+1,j,none⟩=false:=λj=>by
   rw[b1.frozen (p:=⟨w.heap.size+1,j,none⟩) (by simp)];simp
  have y0:=r1.c0;have y1:=r1.c1;have fW:Below w.heap.size w w1:=bW (χ (χ (γ _ _) _) _) b1;have s1:=r1.lt;have u0:=λo=>(t1.a o).c0;have u1:=λo=>(t1.a o).c1;clear r1 b1 t1;go_wp2_with fail;have q0:∀(o:Obj) (p1 p2:Addr) (v1 v2:Value) (j:Nat),(((w1.setCell p1 v1).setCell p2 v2).alloc o).cell? ⟨w.heap.size+1,j,none⟩=((w1.setCell p1 v1).setCell p2 v2).cell? ⟨w.heap.size+1,j,none⟩:=
   λo p1 p2 v1 v2 j=>aV _ _ ⟨w.heap.size+1,j,none⟩ (by simp[World.setCell];omega)
  exact Θ (v:=fJ q k) (by simp[results,results264,go_sem,y0,y1,q0]) rfl ⟨rfl,χ ((fW.setCell (by simp) _).setCell (by simp) _) _⟩
end Fr
open Go.Lib
namespace Sb
theorem EL (w:World)(g vb k lb cb _n _c m vc:Nat)(TL:vb≠g)(tA tB:TypeId)(kA kB:Nat)(hsa:w.shape? vb=some (tA,kA))(Il:w.shape? g=some (tB,kB))(hkB:kB≠0)(hfa:w.frozen? ⟨vb,0,none⟩=false)(hfe:w.frozen? ⟨vb,kA,none⟩=false):
  (callFunc 260 #[.slice (some ⟨vb,0,none⟩) m vc,.slice (some ⟨g,k,none⟩) lb cb]).run prog w=.ok (.value (.bool false)) w:=by
 rw[run_callFunc_extern func260 (by kernel_rfl) (by kernel_rfl) (by kernel_rfl) (e:=Extern.SlicesOverlaps.overlaps #[246,246] #[4]) (by kernel_rfl),
  Lib.run_overlaps_apart w 246 4 288 underlying246 1 (by intro w;exact Tryz.sizeOf288 w) ⟨vb,0,none⟩ ⟨g,k,none⟩ m vc lb cb TL tA tB kA kB hsa Il hkB hfa hfe]
 rfl
theorem vv (g n c k vb:Nat) (cs:List Value) (x:Value) (w:World) (D:k<n) (hroom:n+1<=c) (abC:c<=9223372036854775807) (TL:vb≠g) (eR:cs.length=n)
  (hcs:∀j v,cs[j]?=some v->w.cell? ⟨g,j,none⟩=some v) (hsp:∀j,j<n+1->(w.cell? ⟨g,j,none⟩).isSome=true) (hfz:∀j,w.frozen? ⟨g,j,none⟩=false)
  (hv:w.cell? ⟨vb,0,none⟩=some x) (h1c:∀v∈cs,v.oneCell'=true) (OX:x.oneCell'=true)
  (tA tB:TypeId) (kA kB:Nat) (hsa:w.shape? vb=some (tA,kA)) (Il:w.shape? g=some (tB,kB)) (hkB:kB≠0) (hfa:w.frozen? ⟨vb,0,none⟩=false) (hfe:w.frozen? ⟨vb,kA,none⟩=false):
  Calls prog 234 #[.slice (some ⟨g,0,none⟩) n c,.int .i64 k,.slice (some ⟨vb,0,none⟩) 1 1] w λe w' =>
   e=.returned (.slice (some ⟨g,0,none⟩) (n+1) c)/\w'=(w.drew.setCells g (k+1) (cs.drop k)).setCells g k [x]:=by
 have hsz:(prog.info? 288).map (·.size)=some 1:=by kernel_rfl
 have hov:∀lb cb,(callFunc 260 #[.slice (some ⟨vb,0,none⟩) 1 1,.slice (some ⟨g,k+1,none⟩) lb cb]).run prog w=.ok (.value (.bool false)) w:=λlb cb=>EL w g vb (k+1) lb cb n c 1 1 TL tA tB kA kB hsa Il hkB hfa hfe
 have pV:(cs.drop k).length=n-k:=by rw[dW,eR]
 have rf:IntKind.i64.wrap ((k:Int)+1)=(k:Int)+1:=by rw[IntKind.wrap_i64];omega
 have hb1:(0:Int)<=(k:Int)+1:=by omega
 have eY:k<=n:=by omega
 have EM:((k:Int)+1).toNat=k+1:=by omega
 have hb2:¬(c=k+1):=by omega
 have hb3:(k:Int)<=(n:Int)+1:=by omega
 have hb4:¬(c=k):=by omega
 have Vu:∀ty dc sc,(Builtin.copy_ #[246,246] ty #[.slice (some ⟨g,k+1,none⟩) (n-k) dc,.slice (some ⟨g,k,none⟩) (n+1-k) sc]).run prog w.drew=.ok (goInt (cs.drop k).length) (w.drew.setCells g (k+1) (cs.drop k)):=λty dc sc =>
  run_copy_cells w.drew _ _ ty 288 g (k+1) (n-k) dc ⟨g,k,none⟩ (n+1-k) sc (cs.drop k) underlying246 hsz (by rw[pV];simp only[Nat.min_def];split<;>omega)
   (λj v E=>by rw[gF];exact hcs (k+j) v (by rwa [cP]at E))
   (λj E=>hsp _ (by rw[pV]at E;omega)) (λj E=>hfz _) (λv hv=>h1c v (dH hv))
 obtain⟨W1,hW1⟩:∃W1,W1=w.drew.setCells g (k+1) (cs.drop k):=⟨_,rfl⟩
 have aaw:∀j,j<n+1->(W1.cell? ⟨g,j,none⟩).isSome=true:=λj E=>by
  rw[hW1]
  exact isSome_setCells g _ _ w.drew (λt ht=>hsp (k+1+t) (by rw[pV]at ht;omega)) _ (hsp j E)
 have aax:∀(W:World),(∀x,W.cell? x=W1.cell? x)->(∀x,W.frozen? x=W1.frozen? x)->∀ty dc,(Builtin.copy_ #[246,246] ty #[.slice (some ⟨g,k,none⟩) (n+1-k) dc,.slice (some ⟨vb,0,none⟩) 1 1]).run prog W=.ok (goInt 1) (W.setCells g k [x]):=λW OZ Vv ty dc =>
  run_copy_cells W _ _ ty 288 g k (n+1-k) dc ⟨vb,0,none⟩ 1 1 [x] underlying246 hsz (by simp only[ag,Nat.min_def];split<;>omega)
   (λj v E=>by
    obtain rfl:j=0:=by rcases j with _|j<;>simp at E ⊢
    rw[gF,OZ,hW1,fe g _ _ _ _ (λh _=>absurd h TL)]
    simp at E;subst E
    exact hv)
   (λj E=>by rw[OZ];exact aaw _ (by simp at E;omega)) (λj E=>by rw[Vv,hW1,fI];exact hfz _) (λv hv=>by simp at hv;subst hv;exact OX)
 rw[<- hW1]at Vu
 have mixed:prog.follows .mixedOrders=true:=by kernel_rfl
 go_enter func234,ntmps234
 go_wp2_with (simp only[hov])
 go_region_law_o (refine step_copy_runI rfl _ _ 246 246 rfl _ _ (by simp[Act.eval,Act.put]) (by simp[Act.eval,Act.put]) (Vu _ _ _) ?_)
 go_wp2_with (at_builtin;refine wpList_copy_runI _ rfl _ _ 246 246 rfl _ _ rfl rfl (aax _ (λ_=>rfl) (λ_=>rfl) _ _) ?_)
 go_ret
 first|exact⟨rfl,rfl⟩|exact⟨rfl,by rw[hW1]⟩
theorem Mw:(prog.info? 288).map (λi=>(i.zero,i.size,i.bytes))=some (some (.pointer none),1,8):=by kernel_rfl
theorem Im:∃i0,prog.info? 288=some i0/\i0.zero=some (.pointer none)/\i0.size=1/\i0.bytes=8:=by
 have h:=Mw;cases hi:prog.info? 288 with
 |none=>rw[hi]at h;cases h
 |some i0 =>
  rw[hi]at h;simp only[Option.map_some,τ,fR]at h;exact⟨i0,rfl,h.1,h.2.1,h.2.2⟩
theorem xE (g n c k vb:Nat) (cs:List Value) (x:Value) (w:World) (D:k<n) (hnc:n<=c) (hroom:c<n+1) (Ax:n<=100000) (eR:cs.length=n)
  (hcs:∀j v,cs[j]?=some v->w.cell? ⟨g,j,none⟩=some v) (hv:w.cell? ⟨vb,0,none⟩=some x) (h1c:∀v∈cs,v.oneCell'=true) (OX:x.oneCell'=true):
  Calls prog 234 #[.slice (some ⟨g,0,none⟩) n c,.int .i64 k,.slice (some ⟨vb,0,none⟩) 1 1] w λe w' =>
   e=.returned (.slice (some ⟨w.heap.size,0,none⟩) (n+1) (grownCap w (n+1) c 288)) /\
   w'=(((w.alloc (.cells ((cs.take k).toArray++Builtin.zeroCells (Value.pointer none).cells (n+1-k)++Builtin.zeroCells (Value.pointer none).cells (grownCap w (n+1) c 288-(n+1))) 288)).drew.setCells w.heap.size k [x]).drew).setCells w.heap.size (k+1) (cs.drop k):=by
 have mixed:prog.follows .mixedOrders=true:=by kernel_rfl
 obtain⟨i0,eO,hz0,hzs,hzb⟩:=Im
 have hz2:¬((k:Int)=(n:Int)):=by omega
 have hz3:(c:Int)<(n:Int)+1:=by omega
 have hsz:(prog.info? 288).map (·.size)=some 1:=by rw[eO];simp[hzs]
 have UZ:g<w.heap.size:=block_lt_of_cell (hcs 0 _ (ξ (by omega)))
 have hvw:vb<w.heap.size:=block_lt_of_cell hv
 have jG:(n:Int)+1-(k:Int)=((n+1-k:Nat):Int):=by omega
 have hik:k+(n+1-k)=n+1:=by omega
 have hold:(Builtin.firstCells i0.size k (.slice (some ⟨g,0,none⟩) k c)).run prog w.drew=.ok (cs.take k).toArray w.drew:=by
  rw[hzs]
  exact run_firstCells_some w.drew 1 k ⟨g,0,none⟩ k c (cs.take k) (by rw[cI];omega) (λj v E=>by
   rw[gF]
   rw[eN]at E
   split at E
   ·simpa using hcs j v E
   ·cases E)
 have TM:∀ty,(Builtin.append_ #[246,3] ty #[.slice (some ⟨g,0,none⟩) k c,.int .i64 ((n:Int)+1-(k:Int))]).run prog w =
   .ok (.slice (some ⟨w.heap.size,0,none⟩) (n+1) (grownCap w (n+1) c 288)) (w.drew.alloc (.cells ((cs.take k).toArray++Builtin.zeroCells (Value.pointer none).cells (n+1-k)++Builtin.zeroCells (Value.pointer none).cells (grownCap w (n+1) c 288-(n+1))) 288)):=λty=>by
  have h:=Lib.run_append_grow_zeros w 246 3 ty 288 i0 _ .i64 .i64 underlying246 underlying3 eO hz0 (some ⟨g,0,none⟩) k c (cs.take k) hold (n+1-k) (by omega) (by omega) (by omega) (by omega) (by rw[hzb];omega) (by rw[hzb,hik];exact growslice_fits hroom (by omega))
  rw[hik]at h
  rw[jG]
  exact h
 obtain⟨ab3,hG⟩:∃ab3,ab3=grownCap w (n+1) c 288:=⟨_,rfl⟩
 obtain⟨ROW,Ay⟩:∃ROW:Array Value,ROW=(cs.take k).toArray++Builtin.zeroCells (Value.pointer none).cells (n+1-k)++Builtin.zeroCells (Value.pointer none).cells (ab3-(n+1)):=⟨_,rfl⟩
 rw[<- hG]at TM ⊢
 rw[<- Ay]at TM ⊢
 have hRl:n+1<=ROW.size:=by
  rw[Ay]
  simp[Builtin.zeroCells,Value.cells]
  omega
 obtain⟨W1,hW1⟩:∃W1,W1=w.drew.alloc (.cells ROW 288):=⟨_,rfl⟩
 rw[<- hW1]at TM
 have hN:∀j,j<n+1->(W1.cell? ⟨w.heap.size,j,none⟩).isSome=true:=λj E=>by
  rw[hW1,dI (w:=w.drew) ROW _ w.heap.size j rfl,Array.getElem?_eq_getElem (by omega)];rfl
 have hNf:∀j,W1.frozen? ⟨w.heap.size,j,none⟩=false:=λj=>by rw[hW1];exact aG (w:=w.drew) ROW _ w.heap.size j rfl
 have hOb:∀j v,w.cell? ⟨g,j,none⟩=some v->W1.cell? ⟨g,j,none⟩=some v:=λj v h=>by rw[hW1,World.cell?_alloc_past (w:=w.drew) _ g j UZ];exact h
 have hOv:∀j v,w.cell? ⟨vb,j,none⟩=some v->W1.cell? ⟨vb,j,none⟩=some v:=λj v h=>by rw[hW1,World.cell?_alloc_past (w:=w.drew) _ vb j hvw];exact h
 have aay:∀(W:World),(∀x,W.cell? x=W1.cell? x)->(∀x,W.frozen? x=W1.frozen? x)->∀ty dc,(Builtin.copy_ #[246,246] ty #[.slice (some ⟨w.heap.size,k,none⟩) (n+1-k) dc,.slice (some ⟨vb,0,none⟩) 1 1]).run prog W=.ok (goInt 1) (W.setCells w.heap.size k [x]):=λW OZ Vv ty dc =>
  run_copy_cells W _ _ ty 288 w.heap.size k (n+1-k) dc ⟨vb,0,none⟩ 1 1 [x] underlying246 hsz (by simp only[ag,Nat.min_def];split<;>omega)
   (λj v E=>by
    obtain rfl:j=0:=by rcases j with _|j<;>simp at E ⊢
    rw[gF,OZ]
    simp at E;subst E
    exact hOv _ _ hv)
   (λj E=>by rw[OZ];exact hN _ (by simp at E;omega)) (λj E=>by rw[Vv];exact hNf _) (λv hv=>by simp at hv;subst hv;exact OX)
 have hGn:n+1<=ab3:=by rw[hG];exact grownCap_ge w _ _ _
 have abD:ab3<=9223372036854775807:=by
  have:=grownCap_le_maxLen w (n+1) c 288 (by unfold maxLen;omega)
  rw[<- hG]at this
  unfold maxLen at this
  omega
 have hGi:¬(ab3=k):=by omega
 have abE:¬(ab3=k+1):=by omega
 have QN:¬(c=k):=by omega
 have hbN:g≠w.heap.size:=by omega
 have pV:(cs.drop k).length=n-k:=by rw[dW,eR]
 have aaz:∀(W:World),(∀y,W.cell? y=(W1.setCells w.heap.size k [x]).cell? y)->(∀y,W.frozen? y=(W1.setCells w.heap.size k [x]).frozen? y)->∀ty dc sc,(Builtin.copy_ #[246,246] ty #[.slice (some ⟨w.heap.size,k+1,none⟩) (n-k) dc,.slice (some ⟨g,k,none⟩) (n-k) sc]).run prog W=.ok (goInt (cs.drop k).length) (W.setCells w.heap.size (k+1) (cs.drop k)):=λW OZ Vv ty dc sc =>
  run_copy_cells W _ _ ty 288 w.heap.size (k+1) (n-k) dc ⟨g,k,none⟩ (n-k) sc (cs.drop k) underlying246 hsz (by rw[pV];simp only[Nat.min_def];split<;>omega)
   (λj v E=>by
    rw[gF,OZ,fe _ _ _ _ _ (λh _=>absurd h hbN)]
    exact hOb _ v (hcs (k+j) v (by rwa [cP]at E)))
   (λj E=>by rw[OZ];rw[pV]at E;exact isSome_setCells _ _ _ _ (λt ht=>hN _ (by simp at ht;omega)) _ (hN _ (by omega)))
   (λj E=>by rw[Vv,fI];exact hNf _) (λv hv=>h1c v (dH hv))
 subst hW1
 have hE1:∀x,((w.alloc (.cells ROW 288)).drew).cell? x=(w.drew.alloc (.cells ROW 288)).cell? x:=λx=>rfl
 have hE2:∀x,((w.alloc (.cells ROW 288)).drew).frozen? x=(w.drew.alloc (.cells ROW 288)).frozen? x:=λx=>rfl
 have hF1:∀y,(((w.alloc (.cells ROW 288)).drew.setCells w.heap.size k [x]).drew).cell? y=((w.drew.alloc (.cells ROW 288)).setCells w.heap.size k [x]).cell? y:=λy=>rfl
 have hF2:∀y,(((w.alloc (.cells ROW 288)).drew.setCells w.heap.size k [x]).drew).frozen? y=((w.drew.alloc (.cells ROW 288)).setCells w.heap.size k [x]).frozen? y:=λy=>rfl
 have rf:IntKind.i64.wrap ((k:Int)+1)=(k:Int)+1:=by rw[IntKind.wrap_i64];omega
 have hb1:(0:Int)<=(k:Int)+1:=by omega
 have eY:k<=n:=by omega
 have EM:((k:Int)+1).toNat=k+1:=by omega
 have hb3:(k:Int)<=(n:Int):=by omega
 clear jG hik hold Ay hG hRl
 go_enter func234,ntmps234
 go_wp2_with (first
  |(at_builtin;refine Lib.wpList_append_run _ rfl _ _ _ _ rfl _ _ rfl rfl _ _ (TM _) ?_)
  |(at_builtin;refine wpList_copy_runI _ rfl _ _ 246 246 rfl _ _ rfl rfl (aay _ hE1 hE2 _ _) ?_))
 go_region_law_o (refine step_copy_runI rfl _ _ 246 246 rfl (.slice (some ⟨w.heap.size,k+1,none⟩) (n-k) (ab3-(k+1))) (.slice (some ⟨g,k,none⟩) (n-k) (c-k)) (by simp[Act.eval,Act.put]) (by simp[Act.eval,Act.put]) (aaz _ hF1 hF2 3 (ab3-(k+1)) (c-k)) ?_)
 go_wp2
 go_ret
 exact⟨rfl,rfl⟩
end Sb
end Go.Proofs.YtcbmfakjfoggaaaGreatDoor
