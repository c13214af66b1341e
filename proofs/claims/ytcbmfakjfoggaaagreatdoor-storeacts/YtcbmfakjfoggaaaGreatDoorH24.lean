/- H24 -/
import Derived.Test.YtcbmfakjfoggaaaGreatDoorA0
import Derived.Test.YtcbmfakjfoggaaaGreatDoorH22
import Derived.Test.YtcbmfakjfoggaaaGreatDoorH21
import Derived.Test.YtcbmfakjfoggaaaGreatDoorH03
set_option maxHeartbeats 0
set_option maxRecDepth 100000
namespace Go.Proofs.YtcbmfakjfoggaaaGreatDoor
open _root_.Go.Proofs.Tryz Go.RowKit Go.Maps
namespace Mg
open Fr Bd Zn Dz Sb
theorem I5 {w w4:World}{o:Obj}{v:Value}{r:Nat}(q:(w.alloc o).drew.grownBy w4 v.ownBlock)(hv:∀k,v.ownBlock=some k->k=r):Kp (λk=>k=r) w w4:=by
 have b:Below w.heap.size w (w.alloc o).drew:=(χ (γ _ _) o).drew;exact⟨q.os.trans b.os,q.tape.trans b.tape,q.output.trans b.output,σ b.size q.size,λk D hn=>(q.block k (ι D b.size) (λe=>hn (hv k e.symm))).trans (b.block k D)⟩
theorem E9.b {m:Nat}{sz:Int}{Q:List Sl}{f:Int->Int->Option Nat}{oN oA:Int}{w w':World}{ev:Ending}(h:E9 m sz Q f oN oA w ev w'):∃d:Bool,ev=.returned (.bool d)/\Below w.heap.size w w'/\Hid ((d=true->iM m sz Q oN oA/\f oN oA=none)/\(d=false->¬(iM m sz Q oN oA/\f oN oA=none))):=by
 obtain⟨J,⟨rfl,G,O⟩|⟨rfl,G⟩⟩:=h
 ·exact⟨true,rfl,J,⟨λ_=>⟨G,O⟩,λh=>by cases h⟩⟩
 ·exact⟨false,rfl,J,⟨λh=>(by cases h),λ_=>G⟩⟩
inductive TY (N0:Nat)(c t r mb q:Nat)(m:Nat)(sz:Int)(Q:List Sl)(f:Int->Int->Option Nat)(xs:List Bl)(oN oA:Int)(e:Nat->Addr)(w:World):Ending->World->Prop
 |no (w':World) (J:Below w.heap.size w w') (hn:¬(iM m sz Q oN oA/\f oN oA=none)):TY N0 c t r mb q m sz Q f xs oN oA e w (.returned (bc (e 8))) w'
 |yes (r':Nat) (w':World) (ht:iM m sz Q oN oA) (hf:f oN oA=none) (hT:jQ N0 w' c t r' (xs++[(oN,oA)])) (hr:r'=r\/w.heap.size<=r') (hm:Ml w' mb (q+1) (Ad f oN oA (some t))) (D:Kp (λk=>k=t\/k=r\/k=mb) w w'):TY N0 c t r mb q m sz Q f xs oN oA e w (.returned .nilIface) w'
theorem RG (N0:Nat)(c z:Nat)(ly:Ly)(sz:Int)(m:Nat)(bs:List Nat)(Q:List Sl)(oN oA:Int)(w:World)(e:Nat->Addr)(he:gj w e)(h:DC N0 w c z ly sz m bs Q)(hlen:Q.length<=10000)(q:Nat)(hq:q<=1000000)(f:Int->Int->Option Nat)(hm:Ml w ly.1 q f)(t r:Nat)(xs:List Bl)(hT:jQ N0 w c t r xs)(OI:xs.length<=1000):
  Calls prog 202 #[.pointer (some ⟨t,0,none⟩),.agg #[.int .i64 oN,.int .i64 oA]] w λev w'=>TY N0 c t r ly.1 q m sz Q f xs oN oA e w ev w':=by
 have F1:=χ (γ w.heap.size w) (cB oN oA);have q':=θ w #[.int .i64 oN,.int .i64 oA] 34;have q0:=q' 0;have q1:=q' 1;simp only[Δ,υ,ω]at q0 q1;have hs1:w.heap.size<(w.alloc (cB oN oA)).heap.size:=by simp
 have hN:N0<=w.heap.size:=ck (eM hT.ge hT.tg.lt);have T1:=hT.b F1;have k0:=T1.c0;have Wc:=I (IY N0 c z ly sz m bs Q oN oA _ ((h.b F1).b (dw _)) hlen q f ((hm.b F1).b (dw _)));have hne:=hT.ne hm;have uX:=hT.tg.lt;have zv:=hT.xG;have nO:=hm.lt;have Ls:=I (h.b F1);have HW:=I (λ(ht:iM m sz Q oN oA)=>ht.w2 h);have IV:=I T1;have CS:=I (hm.b F1);have cZ:=I F1;have HE:=I he;have RN:Hid (∀w',Below w.heap.size w w'->¬(iM m sz Q oN oA/\f oN oA=none)->TY N0 c t r ly.1 q m sz Q f xs oN oA e w (.returned (bc (e 8))) w'):=λw' G O=>.no w' G O;have RY:Hid (∀r' w',iM m sz Q oN oA->f oN oA=none->jQ N0 w' c t r' (xs++[(oN,oA)])->(r'=r\/w.heap.size<=r')->Ml w' ly.1 (q+1) (Ad f oN oA (some t))->Kp (λk=>k=t\/k=r\/k=ly.1) w w'->TY N0 c t r ly.1 q m sz Q f xs oN oA e w (.returned .nilIface) w'):=λr' w' G O h3 h4 h5 h6=>.yes r' w' G O h3 h4 h5 h6;clear h hm F1 T1 q' hT he;generalize TY N0 c t r ly.1 q m sz Q f xs oN oA e w=TR at*;unfold ptr at*;go_enter func202,ntmps202;go_upto_region 1 with(fail);generalize w.alloc (cB oN oA)=W at*;have htW:t<W.heap.size:=Nat.lt_trans uX hs1;have HK:=I (λw' (J:Below W.drew.heap.size W.drew w')=>show w'.cell? ⟨t,0,none⟩=some (.pointer (some ⟨c,0,none⟩))/\w'.cell? ⟨w.heap.size,0,none⟩=some (.int .i64 oN)/\w'.cell? ⟨w.heap.size,1,none⟩=some (.int .i64 oA)from⟨(J.cell (p:=⟨t,0,none⟩) htW).trans k0,(J.cell (p:=⟨w.heap.size,0,none⟩) hs1).trans q0,(J.cell (p:=⟨w.heap.size,1,none⟩) hs1).trans q1⟩);go_region_held3 (λw'=>w'.cell? ⟨t,0,none⟩=some (.pointer (some ⟨c,0,none⟩))/\w'.cell? ⟨w.heap.size,0,none⟩=some (.int .i64 oN)/\w'.cell? ⟨w.heap.size,1,none⟩=some (.int .i64 oA)) ((first|exact(Z HK) _ (γ _ _)|exact(Z HK) _ (by assumption)|(go_keep;done))) ((first
  |(go_at_call 155;refine(Z Wc).mono ?_;intro ev w3 TQ;obtain⟨d,rfl,b3,Za⟩:=TQ.b;clear TQ)))
 have B3:Below W.heap.size W w3:=bd (w:=W) b3;have fY:=I (bW (Z cZ) B3);have y0:=(B3.cell (p:=⟨w.heap.size,0,none⟩) hs1).trans q0;have y1:=(B3.cell (p:=⟨w.heap.size,1,none⟩) hs1).trans q1;have T3:=(Z IV).b B3;have k3:=T3.c0;have hb3:w.heap.size<w3.heap.size:=ι hs1 B3.size;have Ru:=I ((Z CS).b B3);have d3:=((Z Ls).b B3).ym.c3;have Iw:=((Z Ls).b B3).tg.lt;have Gx:c≠t:=((Z Ls).b B3).tg.ne T3.tg (by decide);have nt:=((Z Ls).b B3).tg;obtain⟨v,v1,vo,hv⟩:=T3.c1;have HV:=I hv;have lU:∀k,v.ownBlock=some k->k=r:=λk D=>by
  rcases hv with⟨rfl,_⟩|⟨cp,rfl⟩
  ·cases D
  ·simpa[Value.ownBlock]using D.symm
 obtain⟨vp,vd,Rm⟩:=aX vo;have vC:=I T3;have Pt:=I nt;clear HK Wc b3 IV CS Ls cZ k0 q0 q1 B3 hv T3 nt;unfold ptr at k3;generalize hxn:xs.length=n at*;have HXN:=I hxn;clear hxn;cases d with
 |false =>
  have hno:=(Z Za).2 rfl;have E8:=((Z HE).below (Z fY)).v8;have qF:=I ((Z RN) w3 (Z fY) hno);clear RN RY Za hno HE;unfold bc at*;go_wp2;exact Z qF
 |true =>
  have xR:=(Z Za).1 rfl;have hw:=(Z HW) xR.1;have HY:=I xR;have xf:=(Z vC).fz 1;have MZ:=(Z vC).tg.lt;have T1:=(Z vC).tg;have BA:Below w3.heap.size w3 (w3.alloc (cB oN oA)).drew:=(χ (γ _ _) _).drew;have iE:=aN vo BA;have hNb:N0<=(w3.alloc (cB oN oA)).drew.heap.size:=σ (by omega) BA.size;have ir:=T1.b BA;have j9:=(BA.cell (p:=⟨t,1,none⟩) MZ).trans v1;have j_:=(BA.frozen (p:=⟨t,1,none⟩) MZ).trans xf;subst Rm;clear RN Za xR HE HW;go_wp2_with fail;go_region_law (refine lT rfl (.tmp 17) (.tmp 19) rfl N0 (.slice vp n vd) n (flat xs) (by simp[Act.eval]) iE (by simp[Act.eval]) (by omega) hNb ?_;intro g4 c4 w4 o4 q4 hg4 kE;have K4:=I5 q4 lU;have e4:=q4.block t ir.lt (d_ iE ir (by decide));have sQ:w4.cell? ⟨t,1,none⟩=some (.slice vp n vd):=(η (a:=⟨t,1,none⟩) e4).trans j9;have ue:w4.frozen? ⟨t,1,none⟩=false:=(π (a:=⟨t,1,none⟩) e4).trans j_);all_goals
   have e5:∀k,k≠t->(w4.setCell ⟨t,1,none⟩ (.slice (some ⟨g4,0,none⟩) (n+1) c4)).heap[k]?=w4.heap[k]?:=λk D=>μ _ _ _ _ D;have K5:Kp (λk=>k=t\/k=r\/k=ly.1) w3 (w4.setCell ⟨t,1,none⟩ (.slice (some ⟨g4,0,none⟩) (n+1) c4)):=(K4.mono (λk _ h=>δ (ε h))).trans (Kp.set w4 t 1 _ (ε rfl));have VI:c≠r:=by
    rcases(Z vC).row with h|h
    ·rw[h];exact Gx
    ·exact(Z Pt).ne h.1 (by decide)
   have hcm:c≠ly.1:=(Z Ru).ne (Z Pt);have k5:(w4.setCell ⟨t,1,none⟩ (.slice (some ⟨g4,0,none⟩) (n+1) c4)).cell? ⟨t,0,none⟩=some (.pointer (some ⟨c,0,none⟩)):=(bu (by simp)).trans ((η (a:=⟨t,0,none⟩) e4).trans ((BA.cell (p:=⟨t,0,none⟩) MZ).trans k3));have d5:=(K5.cell (p:=⟨c,3,none⟩) Iw (by rintro(h|h|h);exact Gx h;exact VI h;exact hcm h)).trans d3;have y50:=(K5.cell (p:=⟨w.heap.size,0,none⟩) hb3 (by rintro(h|h|h)<;>(simp only at h;omega))).trans y0;have y51:=(K5.cell (p:=⟨w.heap.size,1,none⟩) hb3 (by rintro(h|h|h)<;>(simp only at h;omega))).trans y1;have M5:=((Z Ru).blk (K4.blk ly.1 (Z Ru).lt (λe=>hne.2 e.symm))).set hne.1 1 (.slice (some ⟨g4,0,none⟩) (n+1) c4);have G4:Tag w4 g4 34:=by
    rcases o4.2 with⟨e3,_⟩|⟨g',cap',cur,e3,_,hh,_⟩
    ·cases e3
    ·simp only[ψ,τ,av]at e3;obtain⟨⟨rfl,_⟩,_⟩:=e3;exact⟨cur,_,hh⟩
   have T4:Tag w4 t 286:=ir.blk e4;have Qz:g4≠t:=G4.ne T4 (by decide);have hgm:g4≠ly.1:=M5.ne (G4.set _ _);have qo:flat (xs++[(oN,oA)])=flat xs++[.int .i64 oN,.int .i64 oA]:=by rw[bM];rfl
   have rH:(xs++[(oN,oA)]).length=n+1:=by simp[Z HXN]
   have T5:jQ N0 (w4.setCell ⟨t,1,none⟩ (.slice (some ⟨g4,0,none⟩) (n+1) c4)) c t g4 (xs++[(oN,oA)]):=by
    refine⟨k5,⟨.slice (some ⟨g4,0,none⟩) (n+1) c4,fK sQ,?_,δ ⟨c4,by rw[rH]⟩⟩,T4.set _ _,(Z vC).ge,λo=>by rw[Ψ];exact(π (a:=⟨t,o,none⟩) e4).trans ((BA.frozen (p:=⟨t,o,none⟩) MZ).trans ((Z vC).fz o))⟩;rw[rH,qo];exact aI o4 (λg hg=>by
     simp only[Value.ownBlock,τ]at hg;subst hg;exact e5 _ Qz)
   have Wd:g4=r\/w.heap.size<=g4:=by
    rcases hg4 with h|h
    ·exact ε (lU _ h)
    ·right;have G:=BA.size;omega
   have MS:=I T5;have AW:=I K5;have HG4:=I Wd;obtain⟨w6,xS,M6,K6⟩:=(M5.b (dw _)).store (q:=q) (by unfold maxLen;omega) hw (some t);have HM6:=I M6;have HK6:=I K6;simp only[L8]at xS;have aaI:=T5.tg.lt;have aaJ:=(G4.set ⟨t,1,none⟩ (.slice (some ⟨g4,0,none⟩) (n+1) c4)).lt;clear e5 K5 M5 T5 Wd M6 K6 qo rH k3 d3 y0 y1 Ru o4 q4 hg4 kE sQ ue e4 j9 j_ vo iE v1 xf BA ir hNb T1 T4 G4 K4;generalize w4.setCell ⟨t,1,none⟩ (.slice (some ⟨g4,0,none⟩) (n+1) c4)=w5 at*;go_wp2_with fail;go_region
   go_wp2;refine(Z RY) g4 _ (Z HY).1 (Z HY).2 ((Z MS).same ((Z HK6).block t aaI hne.1 hne.1) ((Z HK6).block g4 aaJ hgm hgm)) (Z HG4) (Z HM6) ?_;exact(Kp.below (Z fY)).trans ((Z AW).trans ((Kp.below (dw w5)).trans (Kp.kept (Z HK6) (δ (δ rfl)) (δ (δ rfl)))))
section
variable {N0:Nat}{U:Nat->Prop}{w w':World}{c mb q:Nat}{f:Int->Int->Option Nat}{L:List Nat}{rb:Nat->Nat}{ct:Nat->List Bl}
theorem TS.apart (h:TS N0 U w c mb q f L rb ct){t u:Nat}(ht:t∈L)(hu:u∈L)(hne:u≠t):u≠rb t/\rb u≠t/\rb u≠rb t/\u≠mb/\rb u≠mb:=by
 have G:=h.tr t ht;have O:=h.tr u hu;refine⟨?_,?_,h.rd u hu t ht hne,(O.ne h.ml).1,(O.ne h.ml).2⟩
 ·rcases G.row with e|e
  ·rw[e];exact hne
  ·exact O.tg.ne e.1 (by decide)
 ·rcases O.row with e|e
  ·rw[e];exact hne
  ·exact e.1.ne G.tg (by decide)
theorem TS.lifted (h:TS N0 U w c mb q f L rb ct){t:Nat}(ht:t∈L){xs:List Bl}{o:Bl}(K:ct t=xs++[o])(hT:jQ N0 w' c t (rb t) xs)(hM:Ml w' mb q (Ad f o.1 o.2 none))(hK:Kp (λk=>k=t\/k=rb t\/k=mb) w w'):TS N0 U w' c mb q (Ad f o.1 o.2 none) L rb (kQ ct t xs):=by
 have qH:=h.cn t ht;rw[K]at qH;have hno:o∉xs:=λhm=>(aF.1 qH.1).2.2 o hm o (by simp) rfl;have xV:f o.1 o.2=some t:=(h.lf o.1 o.2 t).2 ⟨ht,by rw[K];simp⟩;refine⟨h.V,λu hu=>?_,h.rd,h.ru,hM,h.mg,λa b u=>?_,λu hu=>?_⟩
 ·by_cases e:u=t
  ·subst e;rw[cH];exact hT
  ·rw[bH e];obtain⟨G,O,h3,h4,h5⟩:=h.apart ht hu e;exact(h.tr u hu).same (hK.blk u (h.tr u hu).tg.lt (by rintro(h|h|h);exact e h;exact G h;exact h4 h)) (hK.blk _ (h.tr u hu).xG (by rintro(h|h|h);exact O h;exact h3 h;exact h5 h))
 ·by_cases e:a=o.1/\b=o.2
  ·obtain⟨rfl,rfl⟩:=e;rw[vk];refine⟨λh=>(by cases h),λ⟨G,O⟩=>?_⟩;by_cases e:u=t
   ·subst e;rw[cH]at O;exact absurd O hno
   ·rw[bH e]at O;have:=(h.lf o.1 o.2 u).2 ⟨G,O⟩;rw[xV]at this;exact absurd (ah this).symm e
  ·rw[vn e,h.lf];by_cases e2:u=t
   ·subst e2;rw[cH,K];refine⟨λ⟨G,O⟩=>⟨G,?_⟩,λ⟨G,O⟩=>⟨G,by simp[O]⟩⟩;rcases aC.1 O with h3|h3
    ·exact h3
    ·simp only[aw]at h3;exact absurd ⟨ba Prod.fst h3,ba Prod.snd h3⟩ e
   ·rw[bH e2]
 ·by_cases e:u=t
  ·subst e;rw[cH];exact⟨(aF.1 qH.1).1,by have:=qH.2.1;simp at this;omega,λx hx=>qH.2.2 x (by simp[hx])⟩
  ·rw[bH e];exact h.cn u hu
theorem TS.laid (h:TS N0 U w c mb q f L rb ct){t r':Nat}(ht:t∈L){o:Bl}(hT:jQ N0 w' c t r' (ct t++[o]))(hr:r'=rb t\/w.heap.size<=r')(hM:Ml w' mb (q+1) (Ad f o.1 o.2 (some t)))(hK:Kp (λk=>k=t\/k=rb t\/k=mb) w w')(hf:f o.1 o.2=none)(hl:(ct t).length<4)(hw:W2 o.1 o.2)(hU:∀k,U k->k<w.heap.size):TS N0 U w' c mb (q+1) (Ad f o.1 o.2 (some t)) L (kQ rb t r') (kQ ct t (ct t++[o])):=by
 have qH:=h.cn t ht;have hno:∀u∈L,o∉ct u:=λu hu hm=>by
  have:=(h.lf o.1 o.2 u).2 ⟨hu,hm⟩;rw[hf]at this;cases this
 refine⟨h.V,λu hu=>?_,λu hu v hv hne=>?_,λu hu=>?_,hM,h.mg,λa b u=>?_,λu hu=>?_⟩
 ·by_cases e:u=t
  ·subst e;rw[cH,cH];exact hT
  ·rw[bH e,bH e];obtain⟨G,O,h3,h4,h5⟩:=h.apart ht hu e;exact(h.tr u hu).same (hK.blk u (h.tr u hu).tg.lt (by rintro(h|h|h);exact e h;exact G h;exact h4 h)) (hK.blk _ (h.tr u hu).xG (by rintro(h|h|h);exact O h;exact h3 h;exact h5 h))
 ·have key:∀x∈L,x≠t->rb x≠r':=λx hx e=>by
   rcases hr with h'|h'
   ·rw[h'];exact h.rd x hx t ht e
   ·have:=(h.tr x hx).xG;omega
  by_cases e:u=t
  ·have e2:v≠t:=λe2=>hne (e.trans e2.symm);rw[e,cH,bH e2];exact(key v hv e2).symm
  ·rw[bH e];by_cases e2:v=t
   ·rw[e2,cH];exact key u hu e
   ·rw[bH e2];exact h.rd u hu v hv hne
 ·by_cases e:u=t
  ·rw[e,cH];rcases hr with h'|h'
   ·rw[h'];exact h.ru t ht
   ·intro O3;have:=hU _ O3;omega
  ·rw[bH e];exact h.ru u hu
 ·by_cases e:a=o.1/\b=o.2
  ·obtain⟨rfl,rfl⟩:=e;rw[vk];refine⟨λh=>?_,λ⟨G,O⟩=>?_⟩
   ·obtain rfl:t=u:=ah h;exact⟨ht,by rw[cH];simp⟩
   ·by_cases e:u=t
    ·rw[e]
    ·rw[bH e]at O;exact absurd O (hno u G)
  ·rw[vn e,h.lf];by_cases e2:u=t
   ·subst e2;rw[cH];refine⟨λ⟨G,O⟩=>⟨G,by simp[O]⟩,λ⟨G,O⟩=>⟨G,?_⟩⟩;rcases aC.1 O with h3|h3
    ·exact h3
    ·simp only[aw]at h3;exact absurd ⟨ba Prod.fst h3,ba Prod.snd h3⟩ e
   ·rw[bH e2]
 ·by_cases e:u=t
  ·subst e;rw[cH];refine⟨aF.2 ⟨qH.1,by simp,λx hx y hy e=>?_⟩,by simp;omega,λx hx=>?_⟩
   ·simp only[aw]at hy;subst hy;subst e;exact hno u hu hx
   ·rcases aC.1 hx with h3|h3
    ·exact qH.2.2 x h3
    ·simp only[aw]at h3;rw[h3];exact hw
  ·rw[bH e];exact h.cn u hu
end
variable {S U:Nat->Prop}{w w' w1:World}{z:Nat}{hi lw mn:Int}{F fm nb:Nat->Nat}{V:Nat->Nd}{fr:Nat->List Nat}
theorem We {k:Nat}(h:DZ w z mn lw hi k nb fm F V fr)(D:Kp S w w')(hs:∀b,S b->∀t∈([241,242,38,3,327]:List TypeId),¬Tag w b t)(hf:∀i,i<k->¬S (fm i)/\¬S (F i)):DZ w' z mn lw hi k nb fm F V fr:=by
 have hs:eh [241,242,38,3,327] w w':=λb t hm ht=>D.blk b ht.lt (λhS=>hs b hS t hm ht);have hl:=h.lt;have hz:=λj=>bN hs (by simp) h.tz j;obtain⟨g,c,e1,o1⟩:=h.cn;obtain⟨g2,c2,rows,e2,o2,r2⟩:=h.cf;refine⟨(hz 0).trans h.m0,(hz 1).trans h.m1,(hz 2).trans h.m2,⟨g,c,(hz 3).trans e1,bK o1 hs (by simp)⟩,⟨g2,c2,rows,(hz 4).trans e2,bK o2 hs (by simp),λi hi=>?_⟩,ι hl D.size,λi hi=>?_,h.ok,h.ne,h.fl,cY hs (by simp) h.tz,λi hi=>cY hs (by simp) (h.tb i hi)⟩
 ·obtain⟨h',d,e3,o3⟩:=r2 i hi;exact⟨h',d,e3,bK o3 hs (by simp)⟩
 ·have J:=h.bd i hi;exact J.blk D.size (hs _ 327 (by simp) (h.tb i hi)) (D.blk _ J.f.lt (hf i hi).1) (D.blk _ J.t.lt (hf i hi).2)
theorem Pu {N0:Nat}{c:Nat}{ly:Ly}{sz:Int}{m:Nat}{bs:List Nat}{Q:List Sl}{k:Nat}(h:PS N0 w c z ly sz m bs Q mn lw hi k nb fm F V fr)(D:Kp S w w')(hS:∀b,S b->Tag w b 286\/Tag w b 34\/Tag w b 182\/Tag w b 175\/Tag w b 177\/b=ly.1){q:Nat}{f:Int->Int->Option Nat}(hm:Ml w' ly.1 q f):∃o,PS N0 w' c z (ly.1,o,ly.2.2) sz m bs Q mn lw hi k nb fm F V fr:=by
 obtain⟨o,ho,Lr⟩:=hm.aQ;have hno:∀b t,Tag w b t->t≠286->t≠34->t≠182->t≠175->t≠177->¬S b:=λb t ht n1 n2 n3 n4 n5 hs=>by
  rcases hS b hs with h'|h'|h'|h'|h'|h'
  ·exact ht.ne h' n1 rfl
  ·exact ht.ne h' n2 rfl
  ·exact ht.ne h' n3 rfl
  ·exact ht.ne h' n4 rfl
  ·exact ht.ne h' n5 rfl
  ·exact h.c.ym.ne ht h'.symm
 have hs:eh [248,288,300] w w':=λb t hm ht=>D.blk b ht.lt (hno b t ht (by rintro rfl;simp at hm) (by rintro rfl;simp at hm) (by rintro rfl;simp at hm) (by rintro rfl;simp at hm) (by rintro rfl;simp at hm));have hmp:∀b {L:List Bl},Mp w b L->b≠ly.1->¬S b:=λb L hM hne hs=>by
  rcases hS b hs with h'|h'|h'|h'|h'|h'
  ·exact jm h' hM rfl
  ·exact jm h' hM rfl
  ·exact jm h' hM rfl
  ·exact jm h' hM rfl
  ·exact jm h' hM rfl
  ·exact hne h'
 have Vs:∀j o',ly.2.2 j=some o'->¬S j:=λj o' e hs=>by
  obtain⟨x1,x2,x3⟩:=h.c.ym.lx j o' e;rcases hS j hs with h'|h'|h'|h'|h'|h'
  ·exact aj x1 x2 h' rfl
  ·exact aj x1 x2 h' rfl
  ·exact aj x1 x2 h' rfl
  ·exact aj x1 x2 h' rfl
  ·exact aj x1 x2 h' rfl
  ·exact x3 h'
 obtain⟨p,d,e2,o2⟩:=h.c.c2;have K:=λj=>bN hs (by simp) h.c.tg j;refine⟨o,We h.d D (λb J t ht hT=>hno b t hT (by rintro rfl;simp at ht) (by rintro rfl;simp at ht) (by rintro rfl;simp at ht) (by rintro rfl;simp at ht) (by rintro rfl;simp at ht) J) (λi hi=>⟨hmp _ (h.d.bd i hi).f (h.ml i hi _ (ε rfl)).1.symm,hmp _ (h.d.bd i hi).t (h.ml i hi _ (ε rfl)).2.symm⟩),?_,h.ow,h.mf,h.k4,h.ml⟩;exact⟨(K 0).trans h.c.c0,(K 1).trans h.c.c1,⟨p,d,(K 2).trans e2,bK o2 hs (by simp)⟩,cY hs (by simp) h.c.tg,h.c.ge,h.c.bg,h.c.len,h.c.V,λi b s G O=>(h.c.sl i b s G O).same (hs b 300 (by simp) (h.c.sl i b s G O).tg),h.c.ok,h.c.so,λo=>(π (w:=w) (a:=⟨c,o,none⟩) (hs c 248 (by simp) h.c.tg)).trans (h.c.cf o),h.c.mm,⟨(K 3).trans h.c.ym.c3,ho,Lr,h.c.ym.lg,λj o' e=>⟨(D.blk j (h.c.ym.YL (δ ⟨o',e⟩)) (Vs j o' e)).trans (h.c.ym.lx j o' e).1,(h.c.ym.lx j o' e).2⟩⟩⟩
theorem rI (x:Nat×Nat)(ws:List (Nat×Nat))(pl:List Nat):ez (x::ws) pl=x.1::x.2::ez ws pl:=rfl
theorem fN:∀{ws:List (Nat×Nat)} {i a b:Nat} (pl:List Nat),ws[i]?=some (a,b)->(ez ws pl).Perm (a::b::ez (ws.eraseIdx i) pl)
 |[],i,a,b,pl,h=>by simp at h
 |x::ws,0,a,b,pl,h=>by
  simp only[υ,τ]at h;subst h;rw[rI];exact List.Perm.refl _
 |x::ws,i+1,a,b,pl,h=>by
  have ih:=fN (ws:=ws) (i:=i) pl (by simpa using h);rw[rI,gX,rI];refine(List.Perm.cons x.1 (List.Perm.cons x.2 ih)).trans ?_;refine(List.Perm.cons x.1 (List.Perm.swap a x.2 _)).trans ?_;refine(List.Perm.swap a x.1 _).trans ?_;refine List.Perm.cons a ?_;refine(List.Perm.cons x.1 (List.Perm.swap b x.2 _)).trans ?_;exact List.Perm.swap b x.1 _
theorem uf:∀(ws:List (Nat×Nat)) (i:Nat) (x:Nat×Nat),(ws.set i x).eraseIdx i=ws.eraseIdx i
 |[],_,_=>rfl
 |_::_,0,_=>rfl
 |y::ws,i+1,x=>by
  rw[bF,gX,gX,uf ws i x]
theorem kF {ws:List (Nat×Nat)}{i:Nat}(hi:i<ws.length)(a b:Nat)(pl:List Nat):(ez (ws.set i (a,b)) pl).Perm (a::b::ez (ws.eraseIdx i) pl):=by
 have:=fN (ws:=ws.set i (a,b)) (i:=i) (a:=a) (b:=b) pl (by rw[aP hi]);rwa [uf]at this
theorem qI (ws:List (Nat×Nat))(pl:List Nat)(t:Nat):(ez ws (pl++[t])).Perm (t::ez ws pl):=by
 unfold ez;rw[<- aJ];exact dU
abbrev RK:List TypeId:=[252,253,38,3,333,291,140,302,305,4,164,185,32,144,258,241,64,167,189,192,90,93,91,208,209,220,205,234,237,316,51,86,114,5,9,29,147]
structure UK (U:Nat->Prop)(w w':World):Prop where
 u:∀k,U k->w'.heap[k]?=w.heap[k]?
 s:Sb.eh RK w w'
 z:w.heap.size<=w'.heap.size
theorem rJ {ts:List TypeId}{w2:World}(h:Sb.eh ts w w1)(h':Sb.eh ts w1 w2):Sb.eh ts w w2:=λb t hm ht=>(h' b t hm (cY h hm ht)).trans (h b t hm ht)
theorem UK.trans {w2:World}(h:UK U w w1)(h':UK U w1 w2):UK U w w2:=⟨λk D=>(h'.u k D).trans (h.u k D),rJ h.s h'.s,σ h.z h'.z⟩
theorem UK.refl (U:Nat->Prop)(w:World):UK U w w:=⟨λ_ _=>rfl,λ_ _ _ _=>rfl,ζ _⟩
theorem UK.n_ {ts:List (Option TypeId)}{N:Nat}(hu:∀k,U k->Tag w k 34)(K:bD ts N w w')(h:∀t∈34::RK,some t∉ts):UK U w w':=⟨λk D=>K.same (hu k D) (h 34 (by simp)),K.ep (λt ht=>h t (aD _ ht)),K.size⟩
theorem UK.below (hu:∀k,U k->Tag w k 34)(J:Below w.heap.size w w'):UK U w w':=⟨λk D=>J.block k (hu k D).lt,eo J,J.size⟩
theorem UK.box (h:UK U w w')(hu:∀k,U k->k<w.heap.size){p:Nat}(hp:w.heap.size<=p)(o:Nat)(v:Value):UK U w (w'.setCell ⟨p,o,none⟩ v):=
 ⟨λk D=>(μ _ _ _ _ (by have:=hu k D;simp only;omega)).trans (h.u k D),λb t hm ht=>(μ _ _ _ _ (by have:=ht.lt;simp only;omega)).trans (h.s b t hm ht),σ h.z (by simp[World.setCell])⟩
structure DQ (w0:World)(N0:Nat)(U:Nat->Prop)(X:Nat->Option Obj)(c z d g:Nat)(sz:Int)(m:Nat)(mn lw hi:Int)(k:Nat)(nb fm F:Nat->Nat)(fr:Nat->List Nat)(ab5:Nat)(Q:List Sl)(V:Nat->Nd)(ws:List (Nat×Nat))(pl:List Nat)(ct:Nat->List Bl)(w:World):Prop where
 b0:Below w0.heap.size w0 w
 ex:∃(ly:Nat×Obj) (bs:List Nat) (q:Nat) (f:Int->Int->Option Nat) (rb:Nat->Nat),PS N0 w c z (ly.1,ly.2,X) sz m bs Q mn lw hi k nb fm F V fr/\TS N0 U w c ly.1 q f (ez ws pl) rb ct/\q<=ab5
 db:DB N0 w c d g ws pl
 pf:∀t∈pl,(ct t).length=4
 tk:∀t∈ez ws pl,∀o∈ct t,iM m sz Q o.1 o.2
 uk:∀k,U k->Tag w k 34
 ul:∀k,U k->w0.heap.size<=k
 pq:pl.length<=ab5
section
variable {w0:World}{N0:Nat}{U:Nat->Prop}{X:Nat->Option Obj}{c z d g:Nat}{sz:Int}{m:Nat}{mn lw hi:Int}{k:Nat}{nb fm F:Nat->Nat}{fr:Nat->List Nat}{ab5:Nat}{Q:List Sl}{V:Nat->Nd}{ws:List (Nat×Nat)}{pl:List Nat}{ct:Nat->List Bl}{w w':World}
theorem DQ.b (h:DQ w0 N0 U X c z d g sz m mn lw hi k nb fm F fr ab5 Q V ws pl ct w)(J:Below w.heap.size w w'):DQ w0 N0 U X c z d g sz m mn lw hi k nb fm F fr ab5 Q V ws pl ct w':=by
 obtain⟨ly,bs,q,f,rb,G,O,h3⟩:=h.ex;exact⟨bW h.b0 J,⟨ly,bs,q,f,rb,G.b J,O.b J,h3⟩,h.db.b J,h.pf,h.tk,λk D=>(h.uk k D).b J,h.ul,h.pq⟩
theorem DQ.wM (h:DQ w0 N0 U X c z d g sz m mn lw hi k nb fm F fr ab5 Q V ws pl ct w)(J:Below w.heap.size w w'):UK U w w':=UK.below h.uk J
theorem DQ.own (h:DQ w0 N0 U X c z d g sz m mn lw hi k nb fm F fr ab5 Q V ws pl ct w)(hN:w0.heap.size<=N0)(K:bD [some 182,some 175,some 177] N0 w w'){kX:List (Nat×Nat)}{dC:List Nat}(hd:DB N0 w' c d g kX dC)(hn:(ez kX dC).Nodup)(hs:∀t∈ez kX dC,t∈ez ws pl)(he:∀t∈ez ws pl,t∉ez kX dC->ct t=[])(hp:∀t∈dC,t∈pl)(hl:dC.length<=pl.length):DQ w0 N0 U X c z d g sz m mn lw hi k nb fm F fr ab5 Q V kX dC ct w'/\UK U w w':=by
 obtain⟨ly,bs,q,f,rb,G,O,h3⟩:=h.ex;have CW:UK U w w':=UK.n_ h.uk K (by decide);exact⟨⟨h.b0.trans ((K.mono (λ_ h=>h) hN).toBelow h.b0.size),⟨ly,bs,q,f,rb,G.n_ K (by decide) (by decide) (by decide),(O.Q5 K (by decide) (by decide) (by decide)).sub hn hs he,h3⟩,hd,λt ht=>h.pf t (hp t ht),λt ht=>h.tk t (hs t ht),λk D=>(h.uk k D).blk (CW.u k D),h.ul,σ hl h.pq⟩,CW⟩
theorem DQ.more (h:DQ w0 N0 U X c z d g sz m mn lw hi k nb fm F fr ab5 Q V ws pl ct w)(J:Below w.heap.size w w'){b:Nat}(hw:w.heap.size<=b)(ht:Tag w' b 34):DQ w0 N0 (λj=>U j\/j=b) X c z d g sz m mn lw hi k nb fm F fr ab5 Q V ws pl ct w':=by
 obtain⟨ly,bs,q,f,rb,G,O,h3⟩:=h.ex;have h4:=h.b J;refine⟨h4.b0,⟨ly,bs,q,f,rb,G.b J,(O.b J).others (λt hT hV=>?_),h3⟩,h4.db,h.pf,h.tk,λj E=>?_,λj E=>?_,h.pq⟩
 ·rcases hV with hV|hV
  ·exact hV
  ·have:=(O.tr t hT).xG;omega
 ·rcases E with E|rfl
  ·exact h4.uk j E
  ·exact ht
 ·rcases E with E|rfl
  ·exact h.ul j E
  ·exact σ h.b0.size hw
theorem DQ.less {ab7:Nat->Prop}(h:DQ w0 N0 U X c z d g sz m mn lw hi k nb fm F fr ab5 Q V ws pl ct w)(hv:∀j,ab7 j->U j):DQ w0 N0 ab7 X c z d g sz m mn lw hi k nb fm F fr ab5 Q V ws pl ct w:=by
 obtain⟨ly,bs,q,f,rb,G,O,h3⟩:=h.ex;exact⟨h.b0,⟨ly,bs,q,f,rb,G,O.others (λt _ hV=>hv _ hV),h3⟩,h.db,h.pf,h.tk,λj E=>h.uk j (hv j E),λj E=>h.ul j (hv j E),h.pq⟩
theorem DQ.theirs (h:DQ w0 N0 U X c z d g sz m mn lw hi k nb fm F fr ab5 Q V ws pl ct w)(hs:∀j,j<w.heap.size->¬U j->w'.heap[j]?=w.heap[j]?)(ho:w'.os=w.os)(ht:w'.tape=w.tape)(hu:w'.output=w.output)(hz:w.heap.size<=w'.heap.size)(hT:∀j,U j->Tag w' j 34):DQ w0 N0 U X c z d g sz m mn lw hi k nb fm F fr ab5 Q V ws pl ct w':=by
 obtain⟨ly,bs,q,f,rb,G,O,h3⟩:=h.ex;have K:bD [some 34] 0 w w':=⟨ho,ht,hu,hz,λj E=>by
  by_cases e:U j
  ·obtain⟨cur,fz,e2⟩:=h.uk j e;exact δ ⟨Γ _,_,e2,by simp[kind]⟩
  ·exact ε (hs j E e)⟩
 refine⟨⟨ho.trans h.b0.os,ht.trans h.b0.tape,hu.trans h.b0.output,σ h.b0.size hz,λj E=>(hs j (ι E h.b0.size) (λe=>by have:=h.ul j e;omega)).trans (h.b0.block j E)⟩,⟨ly,bs,q,f,rb,G.n_ K (by decide) (by decide) (by decide),O.Vx hs h.uk,h3⟩,h.db.same (K.ep (by decide)),h.pf,h.tk,hT,h.ul,h.pq⟩
theorem DQ.pB (h:DQ w0 N0 U X c z d g sz m mn lw hi k nb fm F fr ab5 Q V ws pl ct w){b:Nat}(J:U b)(o:Nat)(v:Value):DQ w0 N0 U X c z d g sz m mn lw hi k nb fm F fr ab5 Q V ws pl ct (w.setCell ⟨b,o,none⟩ v):=
 h.theirs (λj _ hn=>μ _ _ _ _ (λe=>hn (e▸J))) rfl rfl rfl (by simp[World.setCell]) (λj E=>(h.uk j E).set _ _)
theorem DB.pair {p:List Nat}(h:DB N0 w c d g ws p){kX:List (Nat×Nat)}(hl:kX.length=ws.length)(K:bD [some 177] N0 w w'){cp:Nat}(e1:w.cell? ⟨d,1,none⟩=some (.slice (some ⟨g,0,none⟩) ws.length cp))(ho:w'.ownsRow N0 177 2 (.slice (some ⟨g,0,none⟩) ws.length cp) ws.length (eB kX)):DB N0 w' c d g kX p:=by
 have hs:eh [182,175] w w':=K.ep (by decide);obtain⟨q,KN,e2,o2⟩:=h.d2;have hc':=λj=>bN hs (by simp) h.tg j;refine⟨(hc' 0).trans h.d0,⟨cp,?_,?_⟩,⟨q,KN,(hc' 2).trans e2,bK o2 hs (by simp)⟩,cY hs (by simp) h.tg,h.ge,λo=>(π (w:=w) (a:=⟨d,o,none⟩) (hs d 182 (by simp) h.tg)).trans (h.fz o)⟩
 ·rw[hl];exact(hc' 1).trans e1
 ·rw[hl];exact ho
end
inductive kT (ct:Nat->List Bl)(a b:Nat):List Nat->Nat->Nat->List Nat->Prop
 |keep (pl:List Nat) (h:ct a≠[]):kT ct a b pl a b pl
 |swap (pl:List Nat) (h:ct a=[]) (O:ct b≠[]):kT ct a b pl b a pl
 |none (h:ct a=[]) (O:ct b=[]):kT ct a b [] b a []
 |iF (pl:List Nat) (t:Nat) (h:ct a=[]) (O:ct b=[]):kT ct a b (pl++[t]) t a pl
section
variable {w0:World}{N0:Nat}{U:Nat->Prop}{X:Nat->Option Obj}{c z d g:Nat}{sz:Int}{m:Nat}{mn lw hi:Int}{k:Nat}{nb fm F:Nat->Nat}{fr:Nat->List Nat}{ab5:Nat}{Q:List Sl}{V:Nat->Nd}{ws:List (Nat×Nat)}{pl:List Nat}{ct:Nat->List Bl}{w w':World}
theorem DQ.mem (_h:DQ w0 N0 U X c z d g sz m mn lw hi k nb fm F fr ab5 Q V ws pl ct w){i a b:Nat}(hx:ws[i]?=some (a,b)):a∈ez ws pl/\b∈ez ws pl/\a≠b:=by
 have hp:=fN pl hx;obtain⟨ly,bs,q,f,rb,G,O,h3⟩:=_h.ex;have hn:=hp.nodup_iff.1 O.V;refine⟨hp.mem_iff.2 (by simp),hp.mem_iff.2 (by simp),?_⟩;have:=(a_.1 hn).1;intro e;exact this (by rw[e];simp)
theorem DQ.oh (h:DQ w0 N0 U X c z d g sz m mn lw hi k nb fm F fr ab5 Q V ws pl ct w){t:Nat}(ht:t∈ez ws pl):∃r,jQ N0 w c t r (ct t)/\(ct t).length<=4:=by
 obtain⟨ly,bs,q,f,rb,G,O,h3⟩:=h.ex;exact⟨_,O.tr t ht,(O.cn t ht).2.1⟩
theorem DQ.cells (h:DQ w0 N0 U X c z d g sz m mn lw hi k nb fm F fr ab5 Q V ws pl ct w){i a b:Nat}(hx:ws[i]?=some (a,b)):w.cell? ⟨g,i*2,none⟩=some (ptr a)/\w.cell? ⟨g,i*2+1,none⟩=some (ptr b)/\(∀j,w.frozen? ⟨g,j,none⟩=false)/\g<w.heap.size:=by
 obtain⟨cp,e1,o1⟩:=h.db.d1;obtain⟨f0,f1⟩:=mz ws i (a,b) hx;have hn:i<ws.length:=(ν.mp hx).1;exact⟨(o1.cellAt (i*2) (by omega)).trans f0,(o1.cellAt (i*2+1) (by omega)).trans f1,o1.frozenAt,(o1.lt g rfl).2⟩
theorem DQ.swapped (h:DQ w0 N0 U X c z d g sz m mn lw hi k nb fm F fr ab5 Q V ws pl ct w)(hN:w0.heap.size<=N0){i a b:Nat}(hx:ws[i]?=some (a,b)):
  Calls prog 167 #[.pointer (some ⟨g,i*2,none⟩)] w λev w'=>ev=.returned (.tuple #[])/\DQ w0 N0 U X c z d g sz m mn lw hi k nb fm F fr ab5 Q V (ws.set i (b,a)) pl ct w'/\UK U w w':=by
 obtain⟨cp,e1,o1⟩:=h.db.d1;have hn:i<ws.length:=(ν.mp hx).1;refine(MO o1 hx).mono ?_;rintro ev w'⟨rfl,o2,K,_⟩;have xW:=fN pl hx;have xc:=kF hn b a pl;have Cl:(ez (ws.set i (b,a)) pl).Perm (ez ws pl):=(xc.trans (List.Perm.swap a b _)).trans xW.symm;obtain⟨ly,bs,q,f,rb,G,O,h3⟩:=h.ex;have hd:DB N0 w' c d g (ws.set i (b,a)) pl:=h.db.pair (by simp) K e1 o2;exact⟨rfl,h.own hN (K.mono (by decide) (ζ _)) hd (Cl.nodup_iff.2 O.V) (λt ht=>Cl.mem_iff.1 ht) (λt ht hn=>absurd (Cl.mem_iff.2 ht) hn) (λt ht=>ht) (ζ _)⟩
theorem vF {b e size n:Nat}{v:Value}{xs:List Value}(h:w.ownsRow b e size v n xs):n<=9223372036854775807:=by
 rcases h.2 with⟨_,rfl⟩|⟨g,cap,cur,_,_,_,G,O,_⟩
 ·omega
 ·unfold maxLen at O;omega
theorem DQ.iF (h:DQ w0 N0 U X c z d g sz m mn lw hi k nb fm F fr ab5 Q V ws pl ct w):∃p cp,w.cell? ⟨d,2,none⟩=some (.slice p pl.length cp)/\w.ownsRow N0 175 1 (.slice p pl.length cp) pl.length (dS pl)/\d<w.heap.size/\w.frozen? ⟨d,2,none⟩=false:=by
 obtain⟨p,cp,e2,o2⟩:=h.db.d2;exact⟨p,cp,e2,o2,h.db.tg.lt,h.db.fz 2⟩
theorem Fa (h:DQ w0 N0 U X c z d g sz m mn lw hi k nb fm F fr ab5 Q V ws pl ct w){i a b:Nat}(hx:ws[i]?=some (a,b))(hne:ct a≠[]):
  Calls prog 99 #[.pointer (some ⟨d,0,none⟩),.pointer (some ⟨g,i*2,none⟩)] w λev w'=>ev=.returned (.tuple #[])/\w'=w:=by
 obtain⟨ga,gb,gf,gl⟩:=h.cells hx;obtain⟨ma,mb',hab⟩:=h.mem hx;obtain⟨r,hT,hl4⟩:=h.oh ma;obtain⟨p,cp,e2,o2,dl,df⟩:=h.iF;have HC:=I (fQ hT);have jw:0<(ct a).length:=aU.2 hne;have hz:(((ct a).length:Int)==0)=false:=by simp;omega
 generalize(ct a).length=n at*;unfold ptr at ga;have hmx:=vF o2;clear o2 hT h;go_enter func99,ntmps99;go_wp2_with fail;refine(Z HC).mono ?_;rintro ev w1⟨rfl,rfl⟩;by_cases hp:pl.length=0
 ·rw[hp]at e2;go_wp2_with fail;refine bO 1 ?_;rw[cW];go_wp2;go_end0;exact⟨rfl,rfl⟩
 ·obtain⟨ab9,hK⟩:∃ab9,pl.length=ab9+1:=⟨pl.length-1,by omega⟩;rw[hK]at e2 hmx;have hKm:ab9<=9223372036854775806:=by omega
  have hk2:((ab9+1:Nat):Int)-1=(ab9:Int):=by omega
  have EZ:(0:Int)<=(ab9:Int):=by omega
  have TT:decide ((ab9:Int)>=0)=true:=by simp
  have hk3:decide ((0:Int)<=(ab9:Int))=true:=by simp
  clear hK hp;go_wp2_with fail;refine bO 1 ?_;rw[cW];go_wp2_with fail;refine(Z HC).mono ?_;rintro ev w2⟨rfl,rfl⟩;go_wp2;go_end0;exact⟨rfl,rfl⟩
end
theorem rK:∀(l:List (Nat×Nat)) (i x y z:Nat),l[i]?=some (z,y)->(eB l).set (i*2) (ptr x)=eB (l.set i (x,y))
 |[],i,x,y,z,h=>by simp at h
 |u::l,0,x,y,z,h=>by
  simp only[υ,τ]at h;subst h;rfl
 |u::l,i+1,x,y,z,h=>by
  have:=rK l i x y z (by simpa using h);have e:eB (u::l)=ptr u.1::ptr u.2::eB l:=rfl;have e2:eB ((u::l).set (i+1) (x,y))=ptr u.1::ptr u.2::eB (l.set i (x,y)):=rfl;rw[e,e2,show(i+1)*2=i*2+1+1 from by omega,<- this];rfl
section
variable {w0:World}{N0:Nat}{U:Nat->Prop}{X:Nat->Option Obj}{c z d g:Nat}{sz:Int}{m:Nat}{mn lw hi:Int}{k:Nat}{nb fm F:Nat->Nat}{fr:Nat->List Nat}{ab5:Nat}{Q:List Sl}{V:Nat->Nd}{ws:List (Nat×Nat)}{pl:List Nat}{ct:Nat->List Bl}{w w':World}
theorem DB.xX (h:DB N0 w c d g ws pl)(K:bD [some 175] N0 w w'){dC:List Nat}{p:Option Addr}{cp:Nat}(ho:w'.ownsRow N0 175 1 (.slice p dC.length cp) dC.length (dS dC)):DB N0 (w'.setCell ⟨d,2,none⟩ (.slice p dC.length cp)) c d g ws dC/\bD [some 182,some 175,some 177] N0 w (w'.setCell ⟨d,2,none⟩ (.slice p dC.length cp)):=by
 have hs:eh [182,177] w w':=K.ep (by decide);obtain⟨cp1,e1,o1⟩:=h.d1;obtain⟨q,KN,e2,o2⟩:=h.d2;have hc':=λj=>bN hs (by simp) h.tg j;have ht:=cY hs (by simp) h.tg;have hc2:bD [some 182] N0 w' (w'.setCell ⟨d,2,none⟩ (.slice p dC.length cp)):=bD.set ht h.ge _ _;refine⟨⟨(bu (by simp)).trans ((hc' 0).trans h.d0),⟨cp1,(bu (by simp)).trans ((hc' 1).trans e1),vw (bK o1 hs (by simp)) hc2 (by decide)⟩,⟨p,cp,fK ((hc' 2).trans e2),vw ho hc2 (by decide)⟩,ht.set _ _,h.ge,λo=>by rw[Ψ];exact(π (w:=w) (a:=⟨d,o,none⟩) (hs d 182 (by simp) h.tg)).trans (h.fz o)⟩,(K.mono (by decide) (ζ _)).trans (hc2.mono (by decide) (ζ _))⟩
theorem pC {g cp:Nat}(ho:w.ownsRow N0 177 2 (.slice (some ⟨g,0,none⟩) ws.length cp) ws.length (eB ws)){i x y z:Nat}(hx:ws[i]?=some (z,y)):
  (w.setCell ⟨g,i*2,none⟩ (ptr x)).ownsRow N0 177 2 (.slice (some ⟨g,0,none⟩) ws.length cp) ws.length (eB (ws.set i (x,y)))/\bD [some 177] N0 w (w.setCell ⟨g,i*2,none⟩ (ptr x)):=by
 have hg:N0<=g:=(ho.lt g rfl).1;have ht:Tag w g 177:=by
  rcases ho.2 with⟨e,_⟩|⟨g',cap,cur,e,_,hh,_⟩
  ·cases e
  ·simp only[ψ,τ,av]at e;obtain⟨⟨rfl,_⟩,_⟩:=e;exact⟨cur,_,hh⟩
 have G:=(ho.stored (i*2) (ptr x)).1;rw[rK ws i x y z hx]at G;exact⟨G,bD.set ht hg _ _⟩
theorem AY (h:DQ w0 N0 U X c z d g sz m mn lw hi k nb fm F fr ab5 Q V ws pl ct w)(hN:w0.heap.size<=N0){i a b:Nat}(hx:ws[i]?=some (a,b))(ha:ct a=[]):
  Calls prog 99 #[.pointer (some ⟨d,0,none⟩),.pointer (some ⟨g,i*2,none⟩)] w λev w'=>ev=.returned (.tuple #[])/\∃a' b' dC,kT ct a b pl a' b' dC/\DQ w0 N0 U X c z d g sz m mn lw hi k nb fm F fr ab5 Q V (ws.set i (a',b')) dC ct w'/\UK U w w':=by
 have hn:i<ws.length:=(ν.mp hx).1;obtain⟨ga,_,_,_⟩:=h.cells hx;obtain⟨ma,mb',hab⟩:=h.mem hx;obtain⟨r,hT,_⟩:=h.oh ma;have hc0:=fQ hT;rw[ha]at hc0;have HC:=I hc0;have Zb:=I (h.swapped hN hx);have hx2:(ws.set i (b,a))[i]?=some (b,a):=by rw[aP hn]
 have Zc:∀x y,(ws.set i (b,a)).set i (x,y)=ws.set i (x,y):=λx y=>by rw[List.set_set]
 have HSS:=I Zc;have Wh:=I hx2;have HA:=I ha;unfold ptr at ga;clear hT h hc0 Zc hx2 ha ma;generalize hw2:ws.set i (b,a)=Zd at*;have I8:=I hw2;clear hw2;simp only[aA]at HC;go_enter func99,ntmps99;go_wp2_with fail;refine(Z HC).mono ?_;rintro ev w1⟨rfl,rfl⟩;go_wp2_with fail;refine(Z Zb).mono ?_;rintro ev w2⟨rfl,O,RI⟩;obtain⟨ga2,_,gf2,gl2⟩:=O.cells (Z Wh);obtain⟨mb2,_,_⟩:=O.mem (Z Wh);obtain⟨r2,M0,hl2⟩:=O.oh mb2;obtain⟨p,cp,e2,o2,dl,df⟩:=O.iF;have hmx:=vF o2;have p_:=I (fQ M0);have H2:=I O;have xY:=I RI;have AE:=I o2;unfold ptr at ga2;clear O RI o2 M0 HC Zb ga;have qF:Hid (∀dC,kT ct a b pl b a dC->dC=pl->∃a' b' dC,kT ct a b pl a' b' dC/\DQ w0 N0 U X c z d g sz m mn lw hi k nb fm F fr ab5 Q V (ws.set i (a',b')) dC ct w2/\UK U w1 w2):=λdC hl e=>by
  subst e;refine⟨b,a,dC,hl,?_,Z xY⟩;rw[Z I8];exact Z H2
 by_cases hp:pl.length=0
 ·have hpl:pl=[]:=bf.1 hp;have HL:Hid (kT ct a b pl b a pl):=by
   subst hpl;by_cases J:ct b=[]
   ·exact kT.none (Z HA) J
   ·exact kT.swap [] (Z HA) J
  clear p_ hpl;rw[hp]at e2;go_wp2_with fail;refine bO 1 ?_;rw[cW];go_wp2;go_end0;exact⟨rfl,(Z qF) pl (Z HL) rfl⟩
 ·obtain⟨ab9,hK⟩:∃ab9,pl.length=ab9+1:=⟨pl.length-1,by omega⟩;have HK:=I hK;rw[hK]at e2 hmx;have hKm:ab9<=9223372036854775806:=by omega
  have hk2:((ab9+1:Nat):Int)-1=(ab9:Int):=by omega
  have EZ:(0:Int)<=(ab9:Int):=by omega
  have TT:decide ((ab9:Int)>=0)=true:=by simp
  have hk3:decide ((0:Int)<=(ab9:Int))=true:=by simp
  clear hK hp;by_cases J:ct b=[]
  ·obtain⟨xZ,t,rfl⟩:∃xZ t,pl=xZ++[t]:=by
    refine⟨pl.dropLast,pl.getLast (λe=>by have:=Z HK;rw[e]at this;simp at this),?_⟩;exact(fP _).symm
   have hl0:xZ.length=ab9:=by have:=Z HK;simp at this;omega
   have ho:=Z AE;rw[Z HK]at ho;obtain⟨pg,cap,Pe,_⟩:=ho.form (by omega);simp only[ψ,aZ]at Pe;obtain⟨rfl,rfl⟩:=Pe;have z_:w2.cell? ⟨pg,ab9,none⟩=some (.pointer (some ⟨t,0,none⟩)):=by
    have G:(xZ++[t])[ab9]?=some t:=by rw[<- hl0];simp
    exact(ho.cellAt ab9 (by omega)).trans (nZ G)
   have hc0:=Z p_;rw[J]at hc0;simp only[aA]at hc0;have HC3:=I hc0;have ry:=(Z H2).db.d1;obtain⟨TZ,ge1,go1⟩:=ry;obtain⟨go3,Ze⟩:=pC go1 (x:=t) (Z Wh);have hdg:d≠g:=by
    intro e;have G:=(Z H2).db.tg;rcases go1.2 with⟨e',_⟩|⟨g',cap',cur',e',_,hh,_⟩
    ·cases e'
    ·simp only[ψ,τ,av]at e';obtain⟨⟨rfl,_⟩,_⟩:=e';exact G.ne (t':=177) ⟨cur',_,hh⟩ (by decide) e
   have Ox:=(Z H2).db.pair (by rw[dp]) Ze ge1 go3;have oP:=vw ho Ze (by decide);have RJ:=I (I7 N0 (some ⟨pg,0,none⟩) (ab9+1) cp ab9 _ (w2.setCell ⟨g,i*2,none⟩ (ptr t)) oP (by omega) (λv hv=>by
    simp only[dS,eV]at hv;obtain⟨x,_,rfl⟩:=hv;rfl))
   have V2:(w2.setCell ⟨g,i*2,none⟩ (ptr t)).cell? ⟨d,2,none⟩=some (.slice (some ⟨pg,0,none⟩) (ab9+1) cp):=(bu (λe=>hdg (eW e).1.symm)).trans e2;have gf0:=gf2 (i*2);have HGC:=I Ze;have HOP:=I oP;have M7:=I Ox;have hdm:d<w2.heap.size:=dl;clear qF p_ AE hc0 ho go1 go3 Ze Ox oP;unfold ptr at RJ HGC HOP M7 V2;go_wp2_with fail;refine bO 2 ?_;rw[cW];go_wp2_with fail;refine(Z HC3).mono ?_;rintro ev w3⟨rfl,rfl⟩;go_wp2_with fail;refine(Z RJ).mono ?_;rintro ev w4⟨rfl,o4,q4⟩;have wL:=bD.grown q4 (Z HOP);have VH:Sb.eh [182,177] (w3.setCell ⟨g,i*2,none⟩ (.pointer (some ⟨t,0,none⟩))) w4:=wL.ep (by decide);have RM:=Z M7;have e24:=(bN VH (by simp) RM.tg 2).trans V2;have df4:w4.frozen? ⟨d,2,none⟩=false:=(π (a:=⟨d,2,none⟩) (VH d 182 (by simp) RM.tg)).trans (RM.fz 2);have Wi:(dS (xZ++[t])).eraseIdx ab9=dS xZ:=by
    unfold dS;rw[cU,<- hl0];rw[List.eraseIdx_append_of_length_le (by simp)];simp
   rw[Wi,show ab9+1-1=xZ.length by omega]at o4;obtain⟨sP,zy⟩:=RM.xX wL o4;rw[hl0]at sP zy;have hCC:bD [some 182,some 175,some 177] N0 w3 (w4.setCell ⟨d,2,none⟩ (.slice (some ⟨pg,0,none⟩) ab9 cp)):=((Z HGC).mono (by decide) (ζ _)).trans zy;have Gj:i<Zd.length:=(ν.mp (Z Wh)).1;have xW:=(qI Zd xZ t).trans (List.Perm.cons t (fN xZ (Z Wh)));have xc:=kF Gj t a xZ;obtain⟨ly,bs,q,f,rb,_,hTS,_⟩:=(Z H2).ex;have hnd:=xW.nodup_iff.1 hTS.V;have Wj:(t::a::ez (Zd.eraseIdx i) xZ).Nodup:=by
    simp only[a_,ae,not_or]at hnd ⊢;exact⟨⟨hnd.1.2.1,hnd.1.2.2⟩,hnd.2.2.1,hnd.2.2.2⟩
   obtain⟨D5,UK5⟩:=(Z H2).own hN hCC sP (xc.nodup_iff.2 Wj) (λx mN=>xW.mem_iff.2 (by
    have:=xc.mem_iff.1 mN;simp only[ae]at this ⊢;rcases this with h'|h'|h'
    ·exact ε h'
    ·exact δ (δ (ε h'))
    ·exact δ (δ (δ h')))) (λx mN hno=>by
    have G:=xW.mem_iff.1 mN;have O:x∉t::a::ez (Zd.eraseIdx i) xZ:=λh'=>hno (xc.mem_iff.2 h');simp only[ae,not_or]at G O;rcases G with h'|h'|h'|h'
    ·exact absurd h' O.1
    ·rw[h'];exact J
    ·exact absurd h' O.2.1
    ·exact absurd h' O.2.2) (λx mN=>by simp[mN]) (by simp)
   rw[Z HSS]at D5;have hx5:(ws.set i (t,a))[i]?=some (t,a):=by rw[aP hn]
   obtain⟨Wk,_,_,_⟩:=D5.cells hx5;obtain⟨mt5,_,_⟩:=D5.mem hx5;obtain⟨r5,Zf,_⟩:=D5.oh mt5;have ht4:(ct t).length=4:=(Z H2).pf t (by simp);have YQ:=fQ Zf;rw[ht4]at YQ;have xI:=I YQ;have M8:=I D5;have KT:=I ((Z xY).trans UK5);have HL:Hid (kT ct a b (xZ++[t]) t a xZ):=kT.iF xZ t (Z HA) J;unfold ptr at Wk;clear wL VH RM Wi o4 q4 sP zy hCC xW xc hTS hnd Wj D5 UK5 hx5 mt5 Zf ht4 YQ RJ HGC HOP M7 V2 J z_ ga2;have hz:(((4:Nat):Int)==0)=false:=rfl;go_wp2_with fail;generalize w4.setCell ⟨d,2,none⟩ (.slice (some ⟨pg,0,none⟩) ab9 cp)=w5 at*;rw[cW];clear TT hk2 hk3 EZ hmx e24 df4 e2 df ge1 hdg gf0 gf2;have YA:=hl0;clear hl0;by_cases hK0:ab9=0
   ·have E:((ab9:Int)-1) = -1:=by omega
    rw[E];clear E;go_wp2;go_end0;exact⟨rfl,t,a,xZ,Z HL,Z M8,Z KT⟩
   ·have E:∃ab1:Nat,((ab9:Int)-1)=ab1:=⟨ab9-1,by omega⟩;obtain⟨ab1,E⟩:=E;rw[E];have hJ1:decide ((ab1:Int)>=0)=true:=by simp
    have hJ3:decide ((0:Int)<=(ab1:Int))=true:=by simp
    clear E hK0 hKm;go_wp2_with fail;refine(Z xI).mono ?_;rintro ev w6⟨rfl,rfl⟩;go_wp2;go_end0;exact⟨rfl,t,a,xZ,Z HL,Z M8,Z KT⟩
  ·have HL:Hid (kT ct a b pl b a pl):=kT.swap pl (Z HA) J;have jw:0<(ct b).length:=aU.2 J;have hz:(((ct b).length:Int)==0)=false:=by simp;omega
   clear J;generalize(ct b).length=n at*;go_wp2_with fail;refine bO 1 ?_;rw[cW];go_wp2_with fail;refine(Z p_).mono ?_;rintro ev w3⟨rfl,rfl⟩;go_wp2;go_end0;exact⟨rfl,(Z qF) pl (Z HL) rfl⟩
end
theorem iM.or {m:Nat}{sz:Int}{Q:List Sl}{a b:Int}(h:iM m sz Q a b){j:Nat}{s:Sl}(hs:Q[j]?=some s)(p:Nat):iM m sz (Q.set j {s with bm:=s.bm||| 2^p}) a b:=by
 obtain⟨j',i',s',es,hi,J,hn,ha⟩:=h;have E:j<Q.length:=(ν.mp hs).1;by_cases e:j'=j
 ·subst e;rw[hs]at es;cases es
  exact⟨j',i',_,aP E,hi,by simp[Nat.testBit_or,J],hn,ha⟩
 ·exact⟨j',i',s',by rw[cL (cV e)];exact es,hi,J,hn,ha⟩
theorem iM.ins {m:Nat}{sz:Int}{Q:List Sl}{a b:Int}(h:iM m sz Q a b){q:Nat}(hq:q<=Q.length)(x:Sl):iM m sz (Sb.ins Q q x) a b:=by
 obtain⟨j,i,s,es,hi,J,hn,ha⟩:=h;by_cases e:j<q
 ·exact⟨j,i,s,by rw[cF _ hq,af e];exact es,hi,J,hn,ha⟩
 ·exact⟨j+1,i,s,by rw[cF _ hq,ai (by omega),ai (by omega)];simpa using es,hi,J,hn,ha⟩
section
variable {w0:World}{N0:Nat}{U:Nat->Prop}{X:Nat->Option Obj}{c z d g:Nat}{sz:Int}{m:Nat}{mn lw hi:Int}{k:Nat}{nb fm F:Nat->Nat}{fr:Nat->List Nat}{ab5:Nat}{Q nu:List Sl}{V pZ:Nat->Nd}{ws:List (Nat×Nat)}{pl:List Nat}{ct:Nat->List Bl}{w w':World}
theorem DQ.cache (h:DQ w0 N0 U X c z d g sz m mn lw hi k nb fm F fr ab5 Q V ws pl ct w)(hN:w0.heap.size<=N0){ly:Nat×Obj}{bs pD:List Nat}{q:Nat}{f:Int->Int->Option Nat}{rb:Nat->Nat}(G:PS N0 w c z (ly.1,ly.2,X) sz m bs Q mn lw hi k nb fm F V fr)(O:TS N0 U w c ly.1 q f (ez ws pl) rb ct)(h3:q<=ab5)(hp:PS N0 w' c z (ly.1,ly.2,X) sz m pD nu mn lw hi k nb fm F pZ fr)(K:bD K4 N0 w w')(ht:∀t∈ez ws pl,∀o∈ct t,iM m sz Q o.1 o.2->iM m sz nu o.1 o.2):DQ w0 N0 U X c z d g sz m mn lw hi k nb fm F fr ab5 nu pZ ws pl ct w'/\UK U w w':=by
 have hm:w'.heap[ly.1]?=w.heap[ly.1]?:=hp.c.ym.lm.trans G.c.ym.lm.symm;have CW:UK U w w':=UK.n_ h.uk K (by decide);exact⟨⟨h.b0.trans ((K.mono (λ_ h=>h) hN).toBelow h.b0.size),⟨ly,pD,q,f,rb,hp,O.n_ K (by decide) (by decide) hm,h3⟩,h.db.same (K.ep (by decide)),h.pf,λt hT o ho=>ht t hT o ho (h.tk t hT o ho),λk D=>(h.uk k D).blk (CW.u k D),h.ul,h.pq⟩,CW⟩
inductive Gy (w0:World)(N0:Nat)(U:Nat->Prop)(X:Nat->Option Obj)(c z d g:Nat)(sz:Int)(m:Nat)(mn lw hi:Int)(k:Nat)(nb fm F:Nat->Nat)(fr:Nat->List Nat)(ab5:Nat)(Q:List Sl)(V:Nat->Nd)(ws:List (Nat×Nat))(pl:List Nat)(ct:Nat->List Bl)(x:Int)(u:Bool)(e:Nat->Addr)(w:World):Ending->World->Prop
 |no (a:Nat) (w':World) (ha:a<10) (h:DQ w0 N0 U X c z d g sz m mn lw hi k nb fm F fr ab5 Q V ws pl ct w') (hu:UK U w w')
  (hr:(a=1/\¬(0<=x/\x<k))\/∃x':Nat,x=x'/\x'<k/\(dK m x' Q Q.length).1=none/\(fr x').find? (λi=>fA 0 mn u (V i)==2)=none/\a=if(fr x').any (λi=>fA 0 mn u (V i)==1)then 6 else 4):Gy w0 N0 U X c z d g sz m mn lw hi k nb fm F fr ab5 Q V ws pl ct x u e w (.returned (.tuple #[bz 0 0,bc (e a)])) w'
 |old (x' j:Nat) (s:Sl) (w':World) (hx:x=x') (mN:x'<k) (J:(dK m x' Q Q.length).1=some j) (hs:Q[j]?=some s)
  (h:DQ w0 N0 U X c z d g sz m mn lw hi k nb fm F fr ab5 (Q.set j {s with bm:=s.bm||| 2^ff s.bm}) V ws pl ct w') (hu:UK U w w'):Gy w0 N0 U X c z d g sz m mn lw hi k nb fm F fr ab5 Q V ws pl ct x u e w (.returned (.tuple #[bz s.V (s.at_*64+ff s.bm*sz),.nilIface])) w'
 |new (x' i q:Nat) (a:Int) (w':World) (hx:x=x') (mN:x'<k) (J:(dK m x' Q Q.length).1=none) (hf:(fr x').find? (λi=>fA 0 mn u (V i)==2)=some i) (hik:i<k) (ha:a=mO 0 (V i)) (hq:Pos Q i a q)
  (h:DQ w0 N0 U X c z d g sz m mn lw hi k nb fm F fr ab5 (Sb.ins Q q ⟨i,a,1⟩) (up V i (kC 0 (V i))) ws pl ct w') (hu:UK U w w'):Gy w0 N0 U X c z d g sz m mn lw hi k nb fm F fr ab5 Q V ws pl ct x u e w (.returned (.tuple #[bz i (a*64),.nilIface])) w'
theorem DQ.take (h:DQ w0 N0 U X c z d g sz m mn lw hi k nb fm F fr ab5 Q V ws pl ct w)(hN:w0.heap.size<=N0)(e:Nat->Addr)(he:gj w0 e)(x:Int)(u:Bool):
  Calls prog 101 #[ptr c,.int .i64 x,.bool u] w λev w'=>Gy w0 N0 U X c z d g sz m mn lw hi k nb fm F fr ab5 Q V ws pl ct x u e w ev w':=by
 obtain⟨ly,bs,q,f,rb,G,O,h3⟩:=id h.ex;refine(ES N0 c z (ly.1,ly.2,X) sz m bs Q mn lw hi k nb fm F V fr x u e w0 w he h.b0 hN G).mono ?_;rintro ev w' hT;cases hT with
 |no a _ ha hp K hr =>
  obtain⟨h4,h5⟩:=h.cache hN G O h3 hp K (λ_ _ _ _ h=>h);exact .no a w' ha h4 h5 hr
 |old x' j s _ hx mN J hs hp K =>
  obtain⟨h4,h5⟩:=h.cache hN G O h3 hp K (λ_ _ _ _ h=>h.or hs _);exact .old x' j s w' hx mN J hs h4 h5
 |new x' i b q' a _ hx mN J hf hik ha hq hp K =>
  obtain⟨h4,h5⟩:=h.cache hN G O h3 hp K (λ_ _ _ _ h=>h.ins hq.1 _);exact .new x' i q' a w' hx mN J hf hik ha hq h4 h5
theorem DQ.lift (h:DQ w0 N0 U X c z d g sz m mn lw hi k nb fm F fr ab5 Q V ws pl ct w)(hN:w0.heap.size<=N0){t:Nat}(ht:t∈ez ws pl)(htp:t∉pl){xs:List Bl}{o:Bl}(Gx:ct t=xs++[o]):
  Calls prog 100 #[.pointer (some ⟨t,0,none⟩)] w λev w'=>ev=.returned (.tuple #[.agg #[.int .i64 o.1,.int .i64 o.2],.bool true])/\DQ w0 N0 U X c z d g sz m mn lw hi k nb fm F fr ab5 Q V ws pl (kQ ct t xs) w'/\UK U w w':=by
 obtain⟨ly,bs,q,f,rb,G,O,h3⟩:=id h.ex;have hT:=O.tr t ht;have qH:=O.cn t ht;rw[Gx]at hT qH;have xV:f o.1 o.2=some t:=(O.lf o.1 o.2 t).2 ⟨ht,by rw[Gx];simp⟩;refine(IX N0 c t (rb t) ly.1 q f xs o w G.c.ym.c3 O.ml hT (qH.2.2 o (by simp)) xV qH.1 (by have:=qH.2.1;omega) (O.ml.ne G.c.tg)).mono ?_;rintro ev w'⟨rfl,T',M',K'⟩;have hS:∀b,(b=t\/b=rb t\/b=ly.1)->Tag w b 286\/Tag w b 34\/Tag w b 182\/Tag w b 175\/Tag w b 177\/b=ly.1:=λb J=>by
  rcases J with rfl|rfl|rfl
  ·exact ε hT.tg
  ·rcases hT.row with e|e
   ·rw[e];exact ε hT.tg
   ·exact δ (ε e.1)
  ·exact δ (δ (δ (δ (δ rfl))))
 obtain⟨o',sx⟩:=Pu G K' hS M';have hno:∀b t',Tag w b t'->t'≠286->t'≠34->¬(b=t\/b=rb t\/b=ly.1):=λb t' J n1 n2 Fb=>by
  rcases Fb with rfl|rfl|rfl
  ·exact J.ne hT.tg n1 rfl
  ·rcases hT.row with e|e
   ·rw[e]at J;exact J.ne hT.tg n1 rfl
   ·exact J.ne e.1 n2 rfl
  ·exact O.ml.ne J rfl
 have ug:Sb.eh [182,175,177] w w':=λb t' hm J=>K'.blk b J.lt (hno b t' J (by rintro rfl;simp at hm) (by rintro rfl;simp at hm));have CW:UK U w w':=⟨λk D=>K'.blk k (h.uk k D).lt (λFb=>by
  rcases Fb with rfl|rfl|rfl
  ·exact(h.uk _ D).ne hT.tg (by decide) rfl
  ·exact O.ru t ht D
  ·exact O.ml.ne (h.uk _ D) rfl),λb t' hm J=>K'.blk b J.lt (hno b t' J (by rintro rfl;simp at hm) (by rintro rfl;simp at hm)),K'.size⟩
 have jN:∀j,j<w0.heap.size->¬(j=t\/j=rb t\/j=ly.1):=λj E Fb=>by
  have h5:=hT.ge;have h6:=hT.rge;have h7:=O.mg;rcases Fb with rfl|rfl|rfl<;>omega
 refine⟨rfl,⟨⟨K'.os.trans h.b0.os,K'.tape.trans h.b0.tape,K'.output.trans h.b0.output,σ h.b0.size K'.size,λj E=>(K'.blk j (ι E h.b0.size) (jN j E)).trans (h.b0.block j E)⟩,⟨(ly.1,o'),bs,q,_,rb,sx,O.lifted ht Gx T' M' K',h3⟩,h.db.same ug,λu hu=>?_,λu hu o2 ry=>?_,λk D=>(h.uk k D).blk (CW.u k D),h.ul,h.pq⟩,CW⟩
 ·rw[bH (λ(e:u=t)=>htp (by rw[<- e];exact hu))];exact h.pf u hu
 ·by_cases e:u=t
  ·subst e;rw[cH]at ry;exact h.tk u hu o2 (by rw[Gx];simp[ry])
  ·rw[bH e]at ry;exact h.tk u hu o2 ry
end
theorem pE {α : Type}:∀{l:List α} {i:Nat} {x : α},l[i]?=some x->l.set i x=l
 |[],_,_,_=>rfl
 |y::l,0,x,h=>by
  simp only[υ,τ]at h;subst h;rfl
 |y::l,i+1,x,h=>by
  rw[bF,pE (by simpa using h)]
theorem UK.mono {U ab7:Nat->Prop}{w w':World}(h:UK U w w')(hv:∀j,ab7 j->U j):UK ab7 w w':=⟨λj E=>h.u j (hv j E),h.s,h.z⟩
section
variable {w0:World}{N0:Nat}{U:Nat->Prop}{X:Nat->Option Obj}{c z d g:Nat}{sz:Int}{m:Nat}{mn lw hi:Int}{k:Nat}{nb fm F:Nat->Nat}{fr:Nat->List Nat}{ab5:Nat}{Q nu:List Sl}{V pZ:Nat->Nd}{ws:List (Nat×Nat)}{pl:List Nat}{ct:Nat->List Bl}{w w':World}
theorem M_ (h:DQ w0 N0 U X c z d g sz m mn lw hi k nb fm F fr ab5 Q V ws pl ct w)(hN:w0.heap.size<=N0){i a b:Nat}(hx:ws[i]?=some (a,b)):
  Calls prog 99 #[.pointer (some ⟨d,0,none⟩),.pointer (some ⟨g,i*2,none⟩)] w λev w'=>ev=.returned (.tuple #[])/\∃a' b' dC,kT ct a b pl a' b' dC/\DQ w0 N0 U X c z d g sz m mn lw hi k nb fm F fr ab5 Q V (ws.set i (a',b')) dC ct w'/\UK U w w':=by
 by_cases ha:ct a=[]
 ·exact AY h hN hx ha
 ·refine(Fa h hx ha).mono ?_;rintro ev w'⟨rfl,rfl⟩;refine⟨rfl,a,b,pl,kT.keep pl ha,?_,UK.refl _ _⟩;rw[pE hx];exact h
theorem DQ.CX (h:DQ w0 N0 U X c z d g sz m mn lw hi k nb fm F fr ab5 Q V ws pl ct w){i a b:Nat}(hx:ws[i]?=some (a,b)):a∉pl/\b∉pl:=by
 obtain⟨ly,bs,q,f,rb,G,O,h3⟩:=h.ex;have hn:=(fN pl hx).nodup_iff.1 O.V;simp only[a_,ae,not_or]at hn;have hp:∀t∈pl,t∈ez (ws.eraseIdx i) pl:=λt ht=>by unfold ez;exact cX _ ht
 exact⟨λh'=>hn.1.2 (hp _ h'),λh'=>hn.2.1 (hp _ h')⟩
inductive Na (w0:World)(N0:Nat)(U:Nat->Prop)(X:Nat->Option Obj)(c z d g:Nat)(sz:Int)(m:Nat)(mn lw hi:Int)(k:Nat)(nb fm F:Nat->Nat)(fr:Nat->List Nat)(ab5:Nat)(Q:List Sl)(V:Nat->Nd)(ws:List (Nat×Nat))(pl:List Nat)(ct:Nat->List Bl)(x y:Int)(u:Bool)(e:Nat->Addr)(w:World):Ending->World->Prop
 |bad (w':World) (hx:x<0\/(ws.length:Int)<=x) (h:DQ w0 N0 U X c z d g sz m mn lw hi k nb fm F fr ab5 Q V ws pl ct w') (hu:UK U w w'):Na w0 N0 U X c z d g sz m mn lw hi k nb fm F fr ab5 Q V ws pl ct x y u e w (.returned (.tuple #[bz 0 0,bc (e 1)])) w'
 |lift (i a b a' b':Nat) (dC:List Nat) (xs:List Bl) (o:Bl) (w':World) (hx:x=i) (dR:ws[i]?=some (a,b)) (hl:kT ct a b pl a' b' dC) (K:ct a'=xs++[o]) (h:DQ w0 N0 U X c z d g sz m mn lw hi k nb fm F fr ab5 Q V (ws.set i (a',b')) dC (kQ ct a' xs) w') (hu:UK U w w'):Na w0 N0 U X c z d g sz m mn lw hi k nb fm F fr ab5 Q V ws pl ct x y u e w (.returned (.tuple #[bz o.1 o.2,.nilIface])) w'
 |cache (i a b a' b':Nat) (dC:List Nat) (ev:Ending) (w':World) (hx:x=i) (dR:ws[i]?=some (a,b)) (hl:kT ct a b pl a' b' dC) (K:ct a'=[]) (h:Gy w0 N0 U X c z d g sz m mn lw hi k nb fm F fr ab5 Q V (ws.set i (a',b')) dC ct y u e w ev w'):Na w0 N0 U X c z d g sz m mn lw hi k nb fm F fr ab5 Q V ws pl ct x y u e w ev w'
theorem Gy.form {x:Int}{u:Bool}{e:Nat->Addr}{ev:Ending}(h:Gy w0 N0 U X c z d g sz m mn lw hi k nb fm F fr ab5 Q V ws pl ct x u e w ev w'):∃oN oA er,ev=.returned (.tuple #[.agg #[.int .i64 oN,.int .i64 oA],er])/\Hid (Gy w0 N0 U X c z d g sz m mn lw hi k nb fm F fr ab5 Q V ws pl ct x u e w (.returned (.tuple #[.agg #[.int .i64 oN,.int .i64 oA],er])) w')/\UK U w w':=by
 cases id h with
 |no a _ ha hd hu hr=>exact⟨_,_,_,rfl,h,hu⟩
 |old x' j s _ hx mN J hs hd hu=>exact⟨_,_,_,rfl,h,hu⟩
 |new x' i q a _ hx mN J hf hik ha hq hd hu=>exact⟨_,_,_,rfl,h,hu⟩
theorem Gy.map {ab7:Nat->Prop}{w1 w2:World}{x:Int}{u:Bool}{e:Nat->Addr}{ev:Ending}(h:Gy w0 N0 U X c z d g sz m mn lw hi k nb fm F fr ab5 Q V ws pl ct x u e w ev w')(hd:∀nu pZ,DQ w0 N0 U X c z d g sz m mn lw hi k nb fm F fr ab5 nu pZ ws pl ct w'->DQ w0 N0 ab7 X c z d g sz m mn lw hi k nb fm F fr ab5 nu pZ ws pl ct w2)(hu:UK U w w'->UK ab7 w1 w2):Gy w0 N0 ab7 X c z d g sz m mn lw hi k nb fm F fr ab5 Q V ws pl ct x u e w1 ev w2:=by
 cases h with
 |no a _ ha G O hr=>exact .no a w2 ha (hd _ _ G) (hu O) hr
 |old x' j s _ hx mN J hs G O=>exact .old x' j s w2 hx mN J hs (hd _ _ G) (hu O)
 |new x' i q a _ hx mN J hf hik ha hq G O=>exact .new x' i q a w2 hx mN J hf hik ha hq (hd _ _ G) (hu O)
theorem Nc (l:List Bl):l=[]\/∃xs o,l=xs++[o]:=by
 by_cases h:l=[]
 ·exact ε h
 ·exact δ ⟨l.dropLast,l.getLast h,(fP h).symm⟩
theorem DQ.Wl (h:DQ w0 N0 U X c z d g sz m mn lw hi k nb fm F fr ab5 Q V ws pl ct w)(hN:w0.heap.size<=N0)(e:Nat->Addr)(he:gj w0 e)(x y:Int)(u:Bool):
  Calls prog 30 #[.pointer (some ⟨d,0,none⟩),.int .i64 x,.int .i64 y,.bool u] w λev w'=>Na w0 N0 U X c z d g sz m mn lw hi k nb fm F fr ab5 Q V ws pl ct x y u e w ev w':=by
 have F1:=χ (γ w.heap.size w) (cB 0 0);have R1:=cQ w;have H1:=h.more F1 (ζ _) R1.tg;obtain⟨TZ,e1,_⟩:=H1.db.d1;have Nf:∀j,U j->j<w.heap.size:=λj E=>(h.uk j E).lt;have T_:=I Nf;have Ua:=I (h.wM F1);have RB:Hid (∀w',(x<0\/(ws.length:Int)<=x)->DQ w0 N0 U X c z d g sz m mn lw hi k nb fm F fr ab5 Q V ws pl ct w'->UK U w w'->Na w0 N0 U X c z d g sz m mn lw hi k nb fm F fr ab5 Q V ws pl ct x y u e w (.returned (.tuple #[bz 0 0,bc (e 1)])) w'):=λw' G O h3=>.bad w' G O h3;have RL:Hid (∀(i a b a' b':Nat) (dC:List Nat) (xs:List Bl) (o:Bl) (w':World),x=i->ws[i]?=some (a,b)->kT ct a b pl a' b' dC->ct a'=xs++[o]->DQ w0 N0 U X c z d g sz m mn lw hi k nb fm F fr ab5 Q V (ws.set i (a',b')) dC (kQ ct a' xs) w'->UK U w w'->Na w0 N0 U X c z d g sz m mn lw hi k nb fm F fr ab5 Q V ws pl ct x y u e w (.returned (.tuple #[bz o.1 o.2,.nilIface])) w'):=λi a b a' b' dC xs o w' G O h3 h4 h5 h6=>.lift i a b a' b' dC xs o w' G O h3 h4 h5 h6;have RC:Hid (∀(i a b a' b':Nat) (dC:List Nat) (ev:Ending) (w':World),x=i->ws[i]?=some (a,b)->kT ct a b pl a' b' dC->ct a'=[]->Gy w0 N0 U X c z d g sz m mn lw hi k nb fm F fr ab5 Q V (ws.set i (a',b')) dC ct y u e w ev w'->Na w0 N0 U X c z d g sz m mn lw hi k nb fm F fr ab5 Q V ws pl ct x y u e w ev w'):=λi a b a' b' dC ev w' G O h3 h4 h5=>.cache i a b a' b' dC ev w' G O h3 h4 h5;have fk:=I R1;have dD:=I H1;have HE:=I he;clear h F1 R1 H1 Nf he;generalize hTR:Na w0 N0 U X c z d g sz m mn lw hi k nb fm F fr ab5 Q V ws pl ct x y u e w=TR at*;clear hTR;unfold bz bc at*;go_enter func30,ntmps30;go_upto_region 1 with(fail);generalize w.alloc (cB 0 0)=W at*;by_cases hx:x<0\/(ws.length:Int)<=x
 ·have Fc:=I (t_ e1 hx e ((Z HE).below (Z dD).b0));have HX:=I hx;clear RL RC e1 hx;unfold bc at Fc;go_wp2_with fail;refine(Z Fc).mono ?_;rintro ev w1⟨rfl,b1⟩;have H2:=(Z dD).b b1;have UK2:=(Z dD).wM b1;have R2:=(Z fk).b b1;have iu:=I H2;have xY:=I UK2;obtain⟨r0,r1,bQ,rt⟩:=R2;have f0:=bQ 0;have f1:=bQ 1;clear H2 UK2 Fc dD fk bQ b1;obtain⟨t0,t1⟩:=aW r0 r1 (.int .i64 0) (.int .i64 0);go_wp2;refine Θ (v:=.tuple #[.agg #[.int .i64 0,.int .i64 0],.iface 424 (.pointer (some (e 1)))]) (by simp[results,results30,go_sem,t0,t1];try rfl) rfl ?_;refine(Z RB) _ (Z HX) ((((Z iu).pB (δ rfl) 0 _).pB (δ rfl) 1 _).less (λj E=>ε E)) ?_;exact(((Z Ua).trans ((Z xY).mono λj E=>ε E)).box (Z T_) (ζ _) _ _).box (Z T_) (ζ _) _ _
 ·obtain⟨i,rfl⟩:∃i:Nat,x=i:=⟨x.toNat,by omega⟩;have hi:i<ws.length:=by omega
  obtain⟨⟨a,b⟩,dR⟩:∃ab,ws[i]?=some ab:=⟨_,ξ hi⟩;have Fc:=I (rG e1 hi);have uh:=I dR;clear RB e1 hx dR;go_wp2_with fail;refine(Z Fc).mono ?_;rintro ev w1⟨rfl,b1⟩;have HLD:=I (M_ ((Z dD).b b1) hN (Z uh));have xY:=I ((Z dD).wM b1);have jS:=I ((Z fk).b b1);clear Fc dD fk b1;go_wp2_with fail;refine(Z HLD).mono ?_;rintro ev w2⟨rfl,a',b',dC,hl,H3,Zg⟩;have HL:=I hl;have hx3:(ws.set i (a',b'))[i]?=some (a',b'):=by rw[aP hi]
  obtain⟨RU,_,_,_⟩:=H3.cells hx3;obtain⟨Zh,_,_⟩:=H3.mem hx3;have Zi:=(H3.CX hx3).1;have Fe:=I ((Z xY).trans Zg);have iq:=I ((Z jS).blk (Zg.u w.heap.size (δ rfl)));obtain⟨rr,Zj,_⟩:=H3.oh Zh;have Pv:=H3.db.d0;have dlt:=H3.db.tg.lt;have eD:=I H3;unfold ptr at RU Pv;rcases Nc (ct a')with hce|⟨xs,o,hce⟩
  ·have Ng:=I hce;rw[hce]at Zj;have Ub:=I (EY Zj);clear HLD hl H3 Zg Zj hce Zh Zi hx3 xY jS;go_wp2_with fail;refine(Z Ub).mono ?_;rintro ev w3⟨rfl,b3⟩;have F4:=χ b3 (cB 0 0);have H4:=(Z eD).b F4;have zx:=I ((Z iq).b F4);have dc4:=(F4.cell (p:=⟨d,0,none⟩) dlt).trans Pv;have CY:=I ((Z Fe).trans ((Z eD).wM F4));have gL:=I (H4.take hN e (Z HE) y u);clear Ub b3 F4 H4 eD iq Fe RU Pv;unfold ptr at gL;go_upto_region 6 with(fail);generalize w3.alloc (cB 0 0)=W4 at*;go_wp2_with fail;refine(Z gL).mono ?_;intro ev w5 hT;obtain⟨oN,oA,er,rfl,MS,Nh⟩:=hT.form;have R5:=(Z zx).blk (Nh.u w.heap.size (δ rfl));have KT:=I ((Z CY).trans Nh);obtain⟨r0,r1,bQ,rt⟩:=R5;have f0:=bQ 0;have f1:=bQ 1;clear hT Nh gL zx CY bQ dc4 rt;obtain⟨t0,t1⟩:=aW r0 r1 (.int .i64 oN) (.int .i64 oA);go_wp2;refine Θ (v:=.tuple #[.agg #[.int .i64 oN,.int .i64 oA],er]) (by simp[results,results30,go_sem,t0,t1];try rfl) rfl ?_;refine(Z RC) i a b a' b' dC _ _ rfl (Z uh) (Z HL) (Z Ng) ((Z MS).map (λnu pZ hd=>((hd.pB (δ rfl) 0 _).pB (δ rfl) 1 _).less (λj E=>ε E)) (λ_=>?_));exact(((Z Ua).trans ((Z KT).mono λj E=>ε E)).box (Z T_) (ζ _) _ _).box (Z T_) (ζ _) _ _
  ·obtain⟨oN,oA⟩:=o;have Ng:=I hce;have Ub:=I ((Z eD).lift hN Zh Zi hce);clear HLD hl H3 Zg Zj hce Zh Zi hx3 xY jS eD;simp only at Ub;go_wp2_with fail;refine(Z Ub).mono ?_;rintro ev w3⟨rfl,H4,Pw⟩;have F5:=χ (γ w3.heap.size w3) (cB oN oA);have q':=θ w3 #[.int .i64 oN,.int .i64 oA] 34;have q0:=q' 0;have q1:=q' 1;simp only[Δ,υ,ω]at q0 q1;have gW:=I (H4.b F5);have KT:=I (((Z Fe).trans Pw).trans (H4.wM F5));have R5:=((Z iq).blk (Pw.u w.heap.size (δ rfl))).b F5;obtain⟨r0,r1,bQ,rt⟩:=R5;have f0:=bQ 0;have f1:=bQ 1;have hne:w.heap.size≠w3.heap.size:=by
    have:=((Z iq).blk (Pw.u w.heap.size (δ rfl))).tg.lt;omega
   clear Ub H4 Pw iq Fe q' F5 RU Pv rt bQ;go_upto_region 6 with(fail);generalize w3.alloc (cB oN oA)=W5 at*;generalize w3.heap.size=b5 at*;obtain⟨t0,t1⟩:=aW r0 r1 (.int .i64 oN) (.int .i64 oA);go_wp2;refine Θ (v:=.tuple #[.agg #[.int .i64 oN,.int .i64 oA],.nilIface]) (by simp[results,results30,go_sem,t0,t1];try rfl) rfl ?_;refine(Z RL) i a b a' b' dC xs (oN,oA) _ rfl (Z uh) (Z HL) (Z Ng) ((((Z gW).pB (δ rfl) 0 _).pB (δ rfl) 1 _).less (λj E=>ε E)) ?_;exact(((Z Ua).trans ((Z KT).mono λj E=>ε E)).box (Z T_) (ζ _) _ _).box (Z T_) (ζ _) _ _
end
structure DX (w0:World)(N0:Nat)(U:Nat->Prop)(X:Nat->Option Obj)(c z d g:Nat)(sz:Int)(m:Nat)(mn lw hi:Int)(k:Nat)(nb fm F:Nat->Nat)(fr:Nat->List Nat)(ab5:Nat)(Q:List Sl)(V:Nat->Nd)(ws:List (Nat×Nat))(pl:List Nat)(L:List Nat)(ct:Nat->List Bl)(w:World):Prop where
 b0:Below w0.heap.size w0 w
 ex:∃(ly:Nat×Obj) (bs:List Nat) (q:Nat) (f:Int->Int->Option Nat) (rb:Nat->Nat),PS N0 w c z (ly.1,ly.2,X) sz m bs Q mn lw hi k nb fm F V fr/\TS N0 U w c ly.1 q f L rb ct/\q<=ab5
 db:DB N0 w c d g ws pl
 tk:∀t∈L,∀o∈ct t,iM m sz Q o.1 o.2
 uk:∀k,U k->Tag w k 34
 ul:∀k,U k->w0.heap.size<=k
section
variable {w0:World}{N0:Nat}{U:Nat->Prop}{X:Nat->Option Obj}{c z d g:Nat}{sz:Int}{m:Nat}{mn lw hi:Int}{k:Nat}{nb fm F:Nat->Nat}{fr:Nat->List Nat}{ab5:Nat}{Q:List Sl}{V:Nat->Nd}{ws:List (Nat×Nat)}{pl L:List Nat}{ct:Nat->List Bl}{w w':World}
theorem DQ.x (h:DQ w0 N0 U X c z d g sz m mn lw hi k nb fm F fr ab5 Q V ws pl ct w):DX w0 N0 U X c z d g sz m mn lw hi k nb fm F fr ab5 Q V ws pl (ez ws pl) ct w:=⟨h.b0,h.ex,h.db,h.tk,h.uk,h.ul⟩
theorem DX.q (h:DX w0 N0 U X c z d g sz m mn lw hi k nb fm F fr ab5 Q V ws pl L ct w)(hn:(ez ws pl).Nodup)(hs:∀t∈ez ws pl,t∈L)(he:∀t∈L,t∉ez ws pl->ct t=[])(hp:∀t∈pl,(ct t).length=4)(hq:pl.length<=ab5):DQ w0 N0 U X c z d g sz m mn lw hi k nb fm F fr ab5 Q V ws pl ct w:=by
 obtain⟨ly,bs,q,f,rb,G,O,h3⟩:=h.ex;exact⟨h.b0,⟨ly,bs,q,f,rb,G,O.sub hn hs he,h3⟩,h.db,hp,λt ht=>h.tk t (hs t ht),h.uk,h.ul,hq⟩
theorem DX.b (h:DX w0 N0 U X c z d g sz m mn lw hi k nb fm F fr ab5 Q V ws pl L ct w)(J:Below w.heap.size w w'):DX w0 N0 U X c z d g sz m mn lw hi k nb fm F fr ab5 Q V ws pl L ct w':=by
 obtain⟨ly,bs,q,f,rb,G,O,h3⟩:=h.ex;exact⟨bW h.b0 J,⟨ly,bs,q,f,rb,G.b J,O.b J,h3⟩,h.db.b J,h.tk,λk D=>(h.uk k D).b J,h.ul⟩
theorem DX.own (h:DX w0 N0 U X c z d g sz m mn lw hi k nb fm F fr ab5 Q V ws pl L ct w)(hN:w0.heap.size<=N0)(K:bD [some 182,some 175,some 177] N0 w w'){kX:List (Nat×Nat)}{dC:List Nat}(hd:DB N0 w' c d g kX dC):DX w0 N0 U X c z d g sz m mn lw hi k nb fm F fr ab5 Q V kX dC L ct w'/\UK U w w':=by
 obtain⟨ly,bs,q,f,rb,G,O,h3⟩:=h.ex;have CW:UK U w w':=UK.n_ h.uk K (by decide);exact⟨⟨h.b0.trans ((K.mono (λ_ h=>h) hN).toBelow h.b0.size),⟨ly,bs,q,f,rb,G.n_ K (by decide) (by decide) (by decide),O.Q5 K (by decide) (by decide) (by decide),h3⟩,hd,h.tk,λk D=>(h.uk k D).blk (CW.u k D),h.ul⟩,CW⟩
theorem DX.add (h:DX w0 N0 U X c z d g sz m mn lw hi k nb fm F fr ab5 Q V ws pl L ct w)(J:Below w.heap.size w w'){t:Nat}(ht:w.heap.size<=t)(hT:jQ N0 w' c t t []):DX w0 N0 U X c z d g sz m mn lw hi k nb fm F fr ab5 Q V ws pl (t::L) (kQ ct t []) w':=by
 obtain⟨ly,bs,q,f,rb,G,O,h3⟩:=h.ex;have hno:t∉L:=λhm=>by have:=(O.tr t hm).tg.lt;omega
 have h4:=h.b J;refine⟨h4.b0,⟨ly,bs,q,f,kQ rb t t,G.b J,(O.b J).add hno hT (λu hu e=>?_) (λhU=>?_),h3⟩,h4.db,λu hu o ho=>?_,h4.uk,h4.ul⟩
 ·have:=(O.tr u hu).xG;omega
 ·have:=(h.uk t hU).lt;omega
 ·rcases ae.1 hu with e|hu
  ·rw[e,cH]at ho;cases ho
  ·rw[bH (λ(e:u=t)=>hno (by rw[<- e];exact hu))]at ho;exact h.tk u hu o ho
inductive LaR (w0:World)(N0:Nat)(U:Nat->Prop)(X:Nat->Option Obj)(c z d g:Nat)(sz:Int)(m:Nat)(mn lw hi:Int)(k:Nat)(nb fm F:Nat->Nat)(fr:Nat->List Nat)(ab5:Nat)(Q:List Sl)(V:Nat->Nd)(ws:List (Nat×Nat))(pl:List Nat)(L:List Nat)(ct:Nat->List Bl)(t:Nat)(oN oA:Int)(e:Nat->Addr)(w:World):Ending->World->Prop
 |no (w':World) (J:Below w.heap.size w w') (hn:¬(iM m sz Q oN oA/\∀u∈L,(oN,oA)∉ct u)):LaR w0 N0 U X c z d g sz m mn lw hi k nb fm F fr ab5 Q V ws pl L ct t oN oA e w (.returned (bc (e 8))) w'
 |yes (w':World) (ht:iM m sz Q oN oA) (hn:∀u∈L,(oN,oA)∉ct u) (h:DX w0 N0 U X c z d g sz m mn lw hi k nb fm F fr (ab5+1) Q V ws pl L (kQ ct t (ct t++[(oN,oA)])) w') (hu:UK U w w') (D:∀b t',Tag w b t'->t'≠286->t'≠34->w'.heap[b]?=w.heap[b]?):LaR w0 N0 U X c z d g sz m mn lw hi k nb fm F fr ab5 Q V ws pl L ct t oN oA e w (.returned .nilIface) w'
theorem DX.lay (h:DX w0 N0 U X c z d g sz m mn lw hi k nb fm F fr ab5 Q V ws pl L ct w)(hN:w0.heap.size<=N0)(hQ:ab5<=1000000)(e:Nat->Addr)(he:gj w0 e){t:Nat}(ht:t∈L)(hl:(ct t).length<4)(oN oA:Int):
  Calls prog 202 #[.pointer (some ⟨t,0,none⟩),.agg #[.int .i64 oN,.int .i64 oA]] w λev w'=>LaR w0 N0 U X c z d g sz m mn lw hi k nb fm F fr ab5 Q V ws pl L ct t oN oA e w ev w':=by
 obtain⟨ly,bs,q,f,rb,G,O,h3⟩:=id h.ex;have hT:=O.tr t ht;have hfn:f oN oA=none↔∀u∈L,(oN,oA)∉ct u:=by
  refine⟨λhf u hu hm=>?_,λhf=>?_⟩
  ·have:=(O.lf oN oA u).2 ⟨hu,hm⟩;rw[hf]at this;cases this
  ·cases xV:f oN oA with
   |none=>rfl
   |some u =>
    obtain⟨hu,hm⟩:=(O.lf oN oA u).1 xV;exact absurd hm (hf u hu)
 refine(RG N0 c z (ly.1,ly.2,X) sz m bs Q oN oA w e (he.below h.b0) G.c (o_ G) q (by omega) f O.ml t (rb t) (ct t) hT (by omega)).mono ?_;rintro ev w' hR;cases hR with
 |no _ J hn=>exact .no w' J (λ⟨h4,h5⟩=>hn ⟨h4,hfn.2 h5⟩)
 |yes r' _ kV hf Wm hr hM hK =>
  have hS:∀b,(b=t\/b=rb t\/b=ly.1)->Tag w b 286\/Tag w b 34\/Tag w b 182\/Tag w b 175\/Tag w b 177\/b=ly.1:=λb J=>by
   rcases J with rfl|rfl|rfl
   ·exact ε hT.tg
   ·rcases hT.row with e|e
    ·rw[e];exact ε hT.tg
    ·exact δ (ε e.1)
   ·exact δ (δ (δ (δ (δ rfl))))
  obtain⟨o',sx⟩:=Pu G hK hS hM;have hno:∀b t',Tag w b t'->t'≠286->t'≠34->¬(b=t\/b=rb t\/b=ly.1):=λb t' J n1 n2 Fb=>by
   rcases Fb with rfl|rfl|rfl
   ·exact J.ne hT.tg n1 rfl
   ·rcases hT.row with e|e
    ·rw[e]at J;exact J.ne hT.tg n1 rfl
    ·exact J.ne e.1 n2 rfl
   ·exact O.ml.ne J rfl
  have jG:∀b t',Tag w b t'->t'≠286->t'≠34->w'.heap[b]?=w.heap[b]?:=λb t' J n1 n2=>hK.blk b J.lt (hno b t' J n1 n2);have ug:Sb.eh [182,175,177] w w':=λb t' hm J=>jG b t' J (by rintro rfl;simp at hm) (by rintro rfl;simp at hm);have CW:UK U w w':=⟨λk D=>hK.blk k (h.uk k D).lt (λFb=>by
   rcases Fb with rfl|rfl|rfl
   ·exact(h.uk _ D).ne hT.tg (by decide) rfl
   ·exact O.ru t ht D
   ·exact O.ml.ne (h.uk _ D) rfl),λb t' hm J=>hK.blk b J.lt (hno b t' J (by rintro rfl;simp at hm) (by rintro rfl;simp at hm)),hK.size⟩
  have jN:∀j,j<w0.heap.size->¬(j=t\/j=rb t\/j=ly.1):=λj E Fb=>by
   have h5:=hT.ge;have h6:=hT.rge;have h7:=O.mg;rcases Fb with rfl|rfl|rfl<;>omega
  refine .yes w' kV (hfn.1 hf) ⟨⟨hK.os.trans h.b0.os,hK.tape.trans h.b0.tape,hK.output.trans h.b0.output,σ h.b0.size hK.size,λj E=>(hK.blk j (ι E h.b0.size) (jN j E)).trans (h.b0.block j E)⟩,⟨(ly.1,o'),bs,q+1,_,_,sx,O.laid (o:=(oN,oA)) ht Wm hr hM hK hf hl (kV.w2 G.c) (λk D=>(h.uk k D).lt),by omega⟩,h.db.same ug,λu hu o2 ry=>?_,λk D=>(h.uk k D).blk (CW.u k D),h.ul⟩ CW jG;by_cases e:u=t
  ·rw[e,cH]at ry;rcases aC.1 ry with h4|h4
   ·exact h.tk t ht o2 h4
   ·simp only[aw]at h4;rw[h4];exact kV
  ·rw[bH e]at ry;exact h.tk u hu o2 ry
end
section
variable {N0:Nat}{c d g:Nat}{ct:Nat->List Bl}{w w':World}
theorem nv (w:World)(d g i:Nat):∃W,W=((w.alloc (.cells #[.pointer (some ⟨d,0,none⟩)] 23)).alloc (.cells #[.pointer (some ⟨g,i*2,none⟩)] 171)).alloc (.cells #[.pointer none] 175)/\Below w.heap.size w W/\W.heap.size=w.heap.size+3/\W.cell? ⟨w.heap.size,0,none⟩=some (.pointer (some ⟨d,0,none⟩))/\W.cell? ⟨w.heap.size+1,0,none⟩=some (.pointer (some ⟨g,i*2,none⟩))/\W.cell? ⟨w.heap.size+2,0,none⟩=some (.pointer none)/\W.frozen? ⟨w.heap.size+2,0,none⟩=false/\Tag W w.heap.size 23/\Tag W (w.heap.size+1) 171/\Tag W (w.heap.size+2) 175:=by
 have F3:Below w.heap.size w (((w.alloc (.cells #[.pointer (some ⟨d,0,none⟩)] 23)).alloc (.cells #[.pointer (some ⟨g,i*2,none⟩)] 171)).alloc (.cells #[.pointer none] 175)):=χ (χ (χ (γ _ _) _) _) _;have hs1:(w.alloc (.cells #[.pointer (some ⟨d,0,none⟩)] 23)).heap.size=w.heap.size+1:=by simp
 have hs2:((w.alloc (.cells #[.pointer (some ⟨d,0,none⟩)] 23)).alloc (.cells #[.pointer (some ⟨g,i*2,none⟩)] 171)).heap.size=w.heap.size+2:=by simp
 have Py:=χ (γ (w.alloc (.cells #[.pointer (some ⟨d,0,none⟩)] 23)).heap.size (w.alloc (.cells #[.pointer (some ⟨d,0,none⟩)] 23))) (.cells #[.pointer (some ⟨g,i*2,none⟩)] 171);have Zk:=χ (γ ((w.alloc (.cells #[.pointer (some ⟨d,0,none⟩)] 23)).alloc (.cells #[.pointer (some ⟨g,i*2,none⟩)] 171)).heap.size ((w.alloc (.cells #[.pointer (some ⟨d,0,none⟩)] 23)).alloc (.cells #[.pointer (some ⟨g,i*2,none⟩)] 171))) (.cells #[.pointer none] 175);have q1:=θ w #[.pointer (some ⟨d,0,none⟩)] 23 0;have q2:=θ (w.alloc (.cells #[.pointer (some ⟨d,0,none⟩)] 23)) #[.pointer (some ⟨g,i*2,none⟩)] 171 0;have q3:=θ ((w.alloc (.cells #[.pointer (some ⟨d,0,none⟩)] 23)).alloc (.cells #[.pointer (some ⟨g,i*2,none⟩)] 171)) #[.pointer none] 175 0;have t1:=bB w #[.pointer (some ⟨d,0,none⟩)] 23;have t2:=bB (w.alloc (.cells #[.pointer (some ⟨d,0,none⟩)] 23)) #[.pointer (some ⟨g,i*2,none⟩)] 171;have t3:=bB ((w.alloc (.cells #[.pointer (some ⟨d,0,none⟩)] 23)).alloc (.cells #[.pointer (some ⟨g,i*2,none⟩)] 171)) #[.pointer none] 175;have fz:(((w.alloc (.cells #[.pointer (some ⟨d,0,none⟩)] 23)).alloc (.cells #[.pointer (some ⟨g,i*2,none⟩)] 171)).alloc (.cells #[.pointer none] 175)).frozen? ⟨((w.alloc (.cells #[.pointer (some ⟨d,0,none⟩)] 23)).alloc (.cells #[.pointer (some ⟨g,i*2,none⟩)] 171)).heap.size,0,none⟩=false:=aG _ _ _ 0 rfl;rw[hs1]at q2 t2;rw[hs2]at q3 t3 fz;refine⟨_,rfl,F3,by simp,?_,?_,q3,fz,(t1.b Py).b Zk,t2.b Zk,t3⟩
 ·exact(Zk.cell (p:=⟨w.heap.size,0,none⟩) (by rw[hs2];simp)).trans ((Py.cell (p:=⟨w.heap.size,0,none⟩) (by rw[hs1];simp)).trans q1)
 ·exact(Zk.cell (p:=⟨w.heap.size+1,0,none⟩) (by rw[hs2];simp)).trans q2
theorem Wn {a r:Nat}{i:Nat}(ga:w.cell? ⟨g,i*2,none⟩=some (.pointer (some ⟨a,0,none⟩)))(hT:jQ N0 w c a r (ct a))(hl:(ct a).length<4):
  Calls prog 201 #[.pointer (some ⟨d,0,none⟩),.pointer (some ⟨g,i*2,none⟩)] w λev w'=>ev=.returned (.tuple #[.pointer (some ⟨a,0,none⟩),.func (.func 250) #[] #[]])/\Below w.heap.size w w':=by
 obtain⟨W,hW,F3,hs3,x2,x3,x4,f4,_,_,t4⟩:=nv w d g i;have HC:=I (fQ (hT.b F3));have gl:=aa w _ ga;have RU:=(F3.cell (p:=⟨g,i*2,none⟩) gl).trans ga;have hd:decide (((ct a).length:Int)<4)=true:=by simp;omega
 clear ga hT gl t4;generalize(ct a).length=n at*;have HF:=I F3;clear F3;go_enter func201,ntmps201;go_upto_region 1 with(fail);rw[<- hW];clear hW hs3;go_wp2_with fail;refine(Z HC).mono ?_;rintro ev w1⟨rfl,rfl⟩;have t0:=fK (v:=.pointer (some ⟨a,0,none⟩)) (show w1.cell? ⟨w.heap.size+1+1,0,none⟩=some (.pointer none)from x4);go_wp2_with fail;refine Θ (v:=.tuple #[.pointer (some ⟨a,0,none⟩),.func (.func 250) #[] #[]]) (by simp[results,results201,go_sem,t0];try rfl) rfl ?_;exact⟨rfl,(Z HF).setCell (by simp only;omega) _⟩
theorem Wo {a b r r2:Nat}{i:Nat}(ga:w.cell? ⟨g,i*2,none⟩=some (.pointer (some ⟨a,0,none⟩)))(gb:w.cell? ⟨g,i*2+1,none⟩=some (.pointer (some ⟨b,0,none⟩)))(hT:jQ N0 w c a r (ct a))(M0:jQ N0 w c b r2 (ct b))(hl:¬(ct a).length<4)(J:ct b=[]):
  Calls prog 201 #[.pointer (some ⟨d,0,none⟩),.pointer (some ⟨g,i*2,none⟩)] w λev w'=>ev=.returned (.tuple #[.pointer (some ⟨b,0,none⟩),.func (.func 167) #[.pointer (some ⟨g,i*2,none⟩)] #[]])/\Below w.heap.size w w':=by
 obtain⟨W,hW,F3,hs3,x2,x3,x4,f4,_,_,t4⟩:=nv w d g i;have HC:=I (fQ (hT.b F3));rw[J]at M0;have p_:=I (fQ (M0.b F3));have gl:=aa w _ ga;have RU:=(F3.cell (p:=⟨g,i*2,none⟩) gl).trans ga;have gb3:=(F3.cell (p:=⟨g,i*2+1,none⟩) gl).trans gb;have hd:decide (((ct a).length:Int)<4)=false:=by simp;omega
 clear ga gb hT M0 gl t4;simp only[aA]at p_;generalize(ct a).length=n at*;have HF:=I F3;clear F3;go_enter func201,ntmps201;go_upto_region 1 with(fail);rw[<- hW];clear hW hs3;go_wp2_with fail;refine(Z HC).mono ?_;rintro ev w1⟨rfl,rfl⟩;go_wp2_with fail;refine(Z p_).mono ?_;rintro ev w2⟨rfl,rfl⟩;have t0:=fK (v:=.pointer (some ⟨b,0,none⟩)) (show w2.cell? ⟨w.heap.size+1+1,0,none⟩=some (.pointer none)from x4);have x4':w2.cell? ⟨w.heap.size+1+1,0,none⟩=some (.pointer none):=x4;have f4':w2.frozen? ⟨w.heap.size+1+1,0,none⟩=false:=f4;go_wp2_with fail;go_region
 go_wp2;refine Θ (v:=.tuple #[.pointer (some ⟨b,0,none⟩),.func (.func 167) #[.pointer (some ⟨g,i*2,none⟩)] #[]]) (by simp[results,results201,go_sem,t0];try rfl) rfl ?_;exact⟨rfl,((Z HF).setCell (by simp only;omega) _).drew⟩
theorem Wp {a b r r2:Nat}{i:Nat}(hN:N0<=w.heap.size)(Gi:w.cell? ⟨d,0,none⟩=some (.pointer (some ⟨c,0,none⟩)))(ga:w.cell? ⟨g,i*2,none⟩=some (.pointer (some ⟨a,0,none⟩)))(gb:w.cell? ⟨g,i*2+1,none⟩=some (.pointer (some ⟨b,0,none⟩)))(hT:jQ N0 w c a r (ct a))(M0:jQ N0 w c b r2 (ct b))(hl:¬(ct a).length<4)(J:ct b≠[]):
  Calls prog 201 #[.pointer (some ⟨d,0,none⟩),.pointer (some ⟨g,i*2,none⟩)] w λev w'=>∃tn b2 b3 b4:Nat,ev=.returned (.tuple #[.pointer (some ⟨tn,0,none⟩),.func (.func 251) #[] #[.pointer (some ⟨b2,0,none⟩),.pointer (some ⟨b3,0,none⟩),.pointer (some ⟨b4,0,none⟩)]])/\Below w.heap.size w w'/\w.heap.size<=tn/\jQ N0 w' c tn tn []/\w.heap.size<=b4/\(w'.cell? ⟨b2,0,none⟩=some (.pointer (some ⟨d,0,none⟩))/\w'.cell? ⟨b3,0,none⟩=some (.pointer (some ⟨g,i*2,none⟩))/\w'.cell? ⟨b4,0,none⟩=some (.pointer (some ⟨tn,0,none⟩)))/\Tag w' b2 23/\Tag w' b3 171/\Tag w' b4 175:=by
 obtain⟨W,hW,F3,hs3,x2,x3,x4,f4,t2,t3,t4⟩:=nv w d g i;have HC:=I (fQ (hT.b F3));have p_:=I (fQ (M0.b F3));have gl:=aa w _ ga;have dl:=aa w _ Gi;have RU:=(F3.cell (p:=⟨g,i*2,none⟩) gl).trans ga;have gb3:=(F3.cell (p:=⟨g,i*2+1,none⟩) gl).trans gb;have Ox:=(F3.cell (p:=⟨d,0,none⟩) dl).trans Gi;have hd:decide (((ct a).length:Int)<4)=false:=by simp;omega
 have jw:0<(ct b).length:=aU.2 J;have hz:(((ct b).length:Int)==0)=false:=by simp;omega
 have hNW:N0<=W.heap.size:=σ hN F3.size;have HTR:=I (CP N0 c W hNW);have HTN:=I (rF N0 c W hNW);clear ga gb hT M0 gl dl Gi J;generalize(ct a).length=n at*;generalize(ct b).length=n2 at*;have HF:=I F3;have ni:=I t2;have vC:=I t3;have Ff:=I t4;clear F3 t2 t3 t4;go_enter func201,ntmps201;go_upto_region 1 with(fail);rw[<- hW];clear hW;go_wp2_with fail;refine(Z HC).mono ?_;rintro ev w1⟨rfl,rfl⟩;go_wp2_with fail;refine(Z p_).mono ?_;rintro ev w2⟨rfl,rfl⟩;go_wp2_with fail;refine(Z HTR).mono ?_;rintro ev w3⟨rfl,rfl⟩;have FA:=χ (γ w2.heap.size w2) (cD c);have hbl:w.heap.size+1+1<w2.heap.size:=by omega
 have y4:=(FA.cell (p:=⟨w.heap.size+1+1,0,none⟩) hbl).trans x4;have g4:=(FA.frozen (p:=⟨w.heap.size+1+1,0,none⟩) hbl).trans f4;have y2:=(FA.cell (p:=⟨w.heap.size,0,none⟩) (by simp only;omega)).trans x2;have y3:=(FA.cell (p:=⟨w.heap.size+1,0,none⟩) (by simp only;omega)).trans x3;have T2:=I ((Z ni).b FA);have T3:=I ((Z vC).b FA);have T4:=I ((Z Ff).b FA);have jI:=I (bW (Z HF) FA);have EM:w.heap.size+3<=w2.heap.size:=by omega
 clear HC p_ HTR HF ni vC Ff FA x2 x3 x4 f4 RU gb3 Ox;generalize w2.alloc (cD c)=W3 at*;generalize w2.heap.size=tn at*;have t0:=fK (v:=.pointer (some ⟨tn,0,none⟩)) y4;have t1:=fK (v:=.pointer (some ⟨tn,0,none⟩)) t0;subst hs3;go_wp2;refine Θ (v:=.tuple #[.pointer (some ⟨w.heap.size+3,0,none⟩),.func (.func 251) #[] #[.pointer (some ⟨w.heap.size,0,none⟩),.pointer (some ⟨w.heap.size+1,0,none⟩),.pointer (some ⟨w.heap.size+1+1,0,none⟩)]]) (by simp[results,results201,go_sem,t1];try rfl) rfl ?_;have hh:((W3.setCell ⟨w.heap.size+1+1,0,none⟩ (.pointer (some ⟨w.heap.size+3,0,none⟩))).setCell ⟨w.heap.size+1+1,0,none⟩ (.pointer (some ⟨w.heap.size+3,0,none⟩))).heap[w.heap.size+3]?=W3.heap[w.heap.size+3]?:=(μ _ _ _ _ (by simp only;omega)).trans (μ _ _ _ _ (by simp only;omega));refine⟨_,_,_,_,rfl,((Z jI).setCell (by simp only;omega) _).setCell (by simp only;omega) _,by omega,(Z HTN).same hh hh,by omega,⟨(bu (λe=>by have:=(eW e).1;omega)).trans ((bu (λe=>by have:=(eW e).1;omega)).trans y2),(bu (λe=>by have:=(eW e).1;omega)).trans ((bu (λe=>by have:=(eW e).1;omega)).trans y3),t1⟩,((Z T2).set _ _).set _ _,((Z T3).set _ _).set _ _,((Z T4).set _ _).set _ _⟩
end
section
variable {w0:World}{N0:Nat}{U:Nat->Prop}{X:Nat->Option Obj}{c z d g:Nat}{sz:Int}{m:Nat}{mn lw hi:Int}{k:Nat}{nb fm F:Nat->Nat}{fr:Nat->List Nat}{ab5:Nat}{Q:List Sl}{V:Nat->Nd}{ws:List (Nat×Nat)}{pl L:List Nat}{ct:Nat->List Bl}{w w':World}
theorem DB.cells (h:DB N0 w c d g ws pl){i a b:Nat}(hx:ws[i]?=some (a,b)):w.cell? ⟨g,i*2,none⟩=some (ptr a)/\(∀j,w.frozen? ⟨g,j,none⟩=false)/\g<w.heap.size/\Tag w g 177:=by
 obtain⟨cp,e1,o1⟩:=h.d1;obtain⟨f0,f1⟩:=mz ws i (a,b) hx;have hn:i<ws.length:=(ν.mp hx).1;refine⟨(o1.cellAt (i*2) (by omega)).trans f0,o1.frozenAt,(o1.lt g rfl).2,?_⟩;rcases o1.2 with⟨e,_⟩|⟨g',cap,cur,e,_,hh,_⟩
 ·cases e
 ·simp only[ψ,τ,av]at e;obtain⟨⟨rfl,_⟩,_⟩:=e;exact⟨cur,_,hh⟩
theorem DX.R_ (h:DX w0 N0 U X c z d g sz m mn lw hi k nb fm F fr ab5 Q V ws pl L ct w)(hN:w0.heap.size<=N0)(hNw:N0<=w.heap.size)(hpl:pl.length<=1000000){i a b tn b2 b3 b4:Nat}(hx:ws[i]?=some (a,b))(x2:w.cell? ⟨b2,0,none⟩=some (.pointer (some ⟨d,0,none⟩)))(x3:w.cell? ⟨b3,0,none⟩=some (.pointer (some ⟨g,i*2,none⟩)))(x4:w.cell? ⟨b4,0,none⟩=some (.pointer (some ⟨tn,0,none⟩)))(t2:Tag w b2 23)(t3:Tag w b3 171)(t4:Tag w b4 175)(h4:∀p cp,w.cell? ⟨d,2,none⟩=some (.slice p pl.length cp)->some b4≠(Value.slice p pl.length cp).ownBlock):
  Calls prog 251 #[.pointer (some ⟨b2,0,none⟩),.pointer (some ⟨b3,0,none⟩),.pointer (some ⟨b4,0,none⟩)] w λev w'=>ev=.returned (.tuple #[])/\DX w0 N0 U X c z d g sz m mn lw hi k nb fm F fr ab5 Q V (ws.set i (tn,b)) (pl++[a]) L ct w'/\UK U w w':=by
 obtain⟨i0,eO,hz0,hz1,hz2⟩:=CV;have HI:=I eO;have HZ:=I hz0;have eI:=I hz1;have eJ:=I hz2;clear eO hz0 hz1 hz2;obtain⟨ga,gf,gl,gt⟩:=h.db.cells hx;obtain⟨p,cp,e2,o2⟩:=h.db.d2;have dl:=h.db.tg.lt;have df:=h.db.fz 2;have h4':=h4 p cp e2;have HH:=I h;have BA:Below w.heap.size w (w.alloc (.cells #[.pointer (some ⟨a,0,none⟩)] 175)).drew:=(χ (γ _ _) _).drew;have oA:=aN o2 BA;have Zl:=(BA.cell (p:=⟨d,2,none⟩) dl).trans e2;have Zm:=(BA.frozen (p:=⟨d,2,none⟩) dl).trans df;have hNb:N0<=(w.alloc (.cells #[.pointer (some ⟨a,0,none⟩)] 175)).drew.heap.size:=σ hNw BA.size;have Uc:=h.db.tg.b BA;have ni:=I t2;have vC:=I t3;have Ff:=I t4;unfold ptr at ga;have BB:Below w.heap.size w (w.alloc (.cells #[.pointer (some ⟨a,0,none⟩)] 175)):=χ (γ _ _) _;have x2B:=(BB.cell (p:=⟨b2,0,none⟩) t2.lt).trans x2;have x3B:=(BB.cell (p:=⟨b3,0,none⟩) t3.lt).trans x3;have e2B:=(BB.cell (p:=⟨d,2,none⟩) dl).trans e2;have gaB:=(BB.cell (p:=⟨g,i*2,none⟩) gl).trans ga;generalize hn:pl.length=n at*;have Zo:=I hn;clear h hn t2 t3 t4;go_enter func251,ntmps251;have jd:b2≠d:=(Z ni).ne (Z HH).db.tg (by decide);have nb3:b3≠d:=(Z vC).ne (Z HH).db.tg (by decide);have nbg:g≠d:=gt.ne (Z HH).db.tg (by decide);have Ud:Hid (∀(W:World) v,(W.cell? ⟨b2,0,none⟩=some (.pointer (some ⟨d,0,none⟩))/\W.cell? ⟨b3,0,none⟩=some (.pointer (some ⟨g,i*2,none⟩))/\W.cell? ⟨g,i*2,none⟩=some (.pointer (some ⟨a,0,none⟩)))->((W.setCell ⟨d,2,none⟩ v).cell? ⟨b2,0,none⟩=some (.pointer (some ⟨d,0,none⟩))/\(W.setCell ⟨d,2,none⟩ v).cell? ⟨b3,0,none⟩=some (.pointer (some ⟨g,i*2,none⟩))/\(W.setCell ⟨d,2,none⟩ v).cell? ⟨g,i*2,none⟩=some (.pointer (some ⟨a,0,none⟩)))):=λW v h=>⟨(bu (λe=>jd (eW e).1.symm)).trans h.1,(bu (λe=>nb3 (eW e).1.symm)).trans h.2.1,(bu (λe=>nbg (eW e).1.symm)).trans h.2.2⟩;have Zp:Hid (w.drew.cell? ⟨b2,0,none⟩=some (.pointer (some ⟨d,0,none⟩))/\w.drew.cell? ⟨b3,0,none⟩=some (.pointer (some ⟨g,i*2,none⟩))/\w.drew.cell? ⟨g,i*2,none⟩=some (.pointer (some ⟨a,0,none⟩))):=⟨x2,x3,ga⟩;have I9:Hid ((w.alloc (.cells #[.pointer (some ⟨a,0,none⟩)] 175)).drew.cell? ⟨b2,0,none⟩=some (.pointer (some ⟨d,0,none⟩))/\(w.alloc (.cells #[.pointer (some ⟨a,0,none⟩)] 175)).drew.cell? ⟨b3,0,none⟩=some (.pointer (some ⟨g,i*2,none⟩))/\(w.alloc (.cells #[.pointer (some ⟨a,0,none⟩)] 175)).drew.cell? ⟨g,i*2,none⟩=some (.pointer (some ⟨a,0,none⟩))):=⟨x2B,x3B,gaB⟩;have Zq:=(Z ni).b BA;have Zr:=(Z vC).b BA;have Zs:=gt.b BA;go_wp2_with fail;refine wp_region_held_drew (S:=λW=>W.cell? ⟨b2,0,none⟩=some (.pointer (some ⟨d,0,none⟩))/\W.cell? ⟨b3,0,none⟩=some (.pointer (some ⟨g,i*2,none⟩))/\W.cell? ⟨g,i*2,none⟩=some (.pointer (some ⟨a,0,none⟩))) (by kernel_rfl) (Z Zp) (λhHeld=>?_);refine bJ (i:=0) (v:=(.pointer (some ⟨d,0,none⟩))) rfl (by kernel_rfl) (by kernel_rfl) (by kernel_rfl) (λ_ _ _ h=>h) (ε ⟨by rfl,?_⟩) hHeld ?_
 ·intro w hSw;go_simp
 simp only[Act.put,aS];refine bJ (i:=1) (v:=(.pointer (some ⟨d,0,none⟩))) rfl (by kernel_rfl) (by kernel_rfl) (by kernel_rfl) (λ_ _ _ h=>h) (ε ⟨by rfl,?_⟩) hHeld ?_
 ·intro w hSw;go_simp
 simp only[Act.put];refine bJ (i:=2) (v:=(.pointer (some ⟨d,0,none⟩))) rfl (by kernel_rfl) (by kernel_rfl) (by kernel_rfl) (λ_ _ _ h=>h) (ε ⟨by rfl,?_⟩) hHeld ?_
 ·intro w hSw;go_simp
 simp only[Act.put];refine bJ (i:=3) (v:=(.pointer (some ⟨d,2,none⟩))) rfl (by kernel_rfl) (by kernel_rfl) (by kernel_rfl) (λ_ _ _ h=>h) (ε ⟨by rfl,?_⟩) hHeld ?_
 ·intro w hSw;go_simp
 simp only[Act.put];refine bJ (i:=5) (v:=(.pointer (some ⟨g,i*2,none⟩))) rfl (by kernel_rfl) (by kernel_rfl) (by kernel_rfl) (λ_ _ _ h=>h) (ε ⟨by rfl,?_⟩) hHeld ?_
 ·intro w hSw;go_simp
 simp only[Act.put];refine bJ (i:=6) (v:=(.pointer (some ⟨g,i*2,none⟩))) rfl (by kernel_rfl) (by kernel_rfl) (by kernel_rfl) (λ_ _ _ h=>h) (ε ⟨by rfl,?_⟩) hHeld ?_
 ·intro w hSw;go_simp
 simp only[Act.put];refine bJ (i:=7) (v:=(.pointer (some ⟨g,i*2,none⟩))) rfl (by kernel_rfl) (by kernel_rfl) (by kernel_rfl) (λ_ _ _ h=>h) (ε ⟨by rfl,?_⟩) hHeld ?_
 ·intro w hSw;go_simp
 simp only[Act.put];refine bJ (i:=8) (v:=(.pointer (some ⟨a,0,none⟩))) rfl (by kernel_rfl) (by kernel_rfl) (by kernel_rfl) (λ_ _ _ h=>h) (ε ⟨by rfl,?_⟩) hHeld ?_
 ·intro w hSw;go_simp
 simp only[Act.put];refine wpAnyH_ready (rs:=[4,9]) (by kernel_rfl) (by simp) ?_;refine ea rfl (λab9 hK=>?_) (ea rfl (λab9 hK=>?_) fc)
 ·go_simp;refine hK.out _ _ (Z Zp) (λhHeld=>?_);clear hK ab9;refine wpAnyH_ready (rs:=[9]) (by kernel_rfl) (by simp) ?_;refine ea rfl (λab9 hK=>?_) fc;go_simp;refine hK.out _ _ (Z I9) (λhHeld=>?_);clear hK ab9;refine wpAnyH_ready (rs:=[10]) (by kernel_rfl) (by simp) ?_;refine ea rfl (λab9 hK=>?_) fc;(refine bX _ rfl (.tmp 7) (.tmp 12) 180 rfl N0 175 i0 (.pointer none) 1 8 underlying180 (Z HI) (Z HZ) (Z eI) (Z eJ) rfl (by decide) (.slice p n cp) n (dS pl) (by simp[Act.eval]) oA ⟨w.heap.size,0,none⟩ 1 1 [.pointer (some ⟨a,0,none⟩)] (by simp[Act.eval]) rfl (by intro j u E;match j,E with|0,E=>(simp at E;subst E;simp[Addr.add])) (by intro u hu;simp at hu;subst hu;rfl) (by omega) (by unfold maxLen;omega) (by omega) hNb _ rfl ?_;intro g4 c4 w4 o4 q4 hg4 kE;have e4:=q4.block d Uc.lt (d_ oA Uc (by decide));have sQ:w4.cell? ⟨d,2,none⟩=some (.slice p n cp):=(η (a:=⟨d,2,none⟩) e4).trans Zl;have ue:w4.frozen? ⟨d,2,none⟩=false:=(π (a:=⟨d,2,none⟩) e4).trans Zm;have s4:w4.cell? ⟨b2,0,none⟩=some (.pointer (some ⟨d,0,none⟩))/\w4.cell? ⟨b3,0,none⟩=some (.pointer (some ⟨g,i*2,none⟩))/\w4.cell? ⟨g,i*2,none⟩=some (.pointer (some ⟨a,0,none⟩)):=⟨(η (a:=⟨b2,0,none⟩) (q4.block b2 Zq.lt (d_ oA Zq (by decide)))).trans (Z I9).1,(η (a:=⟨b3,0,none⟩) (q4.block b3 Zr.lt (d_ oA Zr (by decide)))).trans (Z I9).2.1,(η (a:=⟨g,i*2,none⟩) (q4.block g Zs.lt (d_ oA Zs (by decide)))).trans (Z I9).2.2⟩);refine hK.out _ _ s4 (λhHeld=>?_);clear hK ab9;simp only[Act.put,aS];refine bJ (i:=11) (v:=(.pointer (some ⟨d,0,none⟩))) rfl (by kernel_rfl) (by kernel_rfl) (by kernel_rfl) (λ_ _ _ h=>h) (ε ⟨by rfl,?_⟩) hHeld ?_
  ·intro w hSw;go_simp
  simp only[Act.put];refine bJ (i:=12) (v:=(.pointer (some ⟨d,2,none⟩))) rfl (by kernel_rfl) (by kernel_rfl) (by kernel_rfl) (λ_ _ _ h=>h) (ε ⟨by rfl,?_⟩) hHeld ?_
  ·intro w hSw;go_simp
  simp only[Act.put];refine wpAnyH_ready (rs:=[13]) (by kernel_rfl) (by simp) ?_;refine ea rfl (λab9 hK=>?_) fc;go_simp;refine hK.out _ _ ((Z Ud) _ _ s4) (λhHeld=>?_);clear hK ab9;refine wpAnyH_done (by kernel_rfl) ?_ _;have wL:bD [some 175] N0 w w4:=(bD.below BA).trans (bD.grown q4 oA);have rH:(pl++[a]).length=n+1:=by simp[Z Zo]
  have z_:dS (pl++[a])=dS pl++[.pointer (some ⟨a,0,none⟩)]:=by unfold dS ptr;simp
  have ui:w4.ownsRow N0 175 1 (.slice (some ⟨g4,0,none⟩) (pl++[a]).length c4) (pl++[a]).length (dS (pl++[a])):=by rw[rH,z_];exact o4
  obtain⟨sP,zy⟩:=(Z HH).db.xX wL ui;rw[rH]at sP zy;obtain⟨TZ,Wq,Ws⟩:=sP.d1;obtain⟨Wu,Sa⟩:=pC Ws (x:=tn) hx;have Wv:=sP.pair (by rw[dp]) Sa Wq Wu;obtain⟨Wk,Ww,_,_⟩:=sP.cells hx;have gf6:=Ww (i*2);have Wx:=(Z Ff).b BA;have y4:(w4.setCell ⟨d,2,none⟩ (.slice (some ⟨g4,0,none⟩) (n+1) c4)).cell? ⟨b4,0,none⟩=some (.pointer (some ⟨tn,0,none⟩)):=(bu (λe=>(Z Ff).ne (Z HH).db.tg (by decide) (eW e).1.symm)).trans ((η (a:=⟨b4,0,none⟩) (q4.block b4 Wx.lt h4')).trans ((BA.cell (p:=⟨b4,0,none⟩) (Z Ff).lt).trans x4));have y3:(w4.setCell ⟨d,2,none⟩ (.slice (some ⟨g4,0,none⟩) (n+1) c4)).cell? ⟨b3,0,none⟩=some (.pointer (some ⟨g,i*2,none⟩)):=((Z Ud) _ _ s4).2.1;have qF:=I ((Z HH).own hN (zy.trans (Sa.mono (by decide) (ζ _))) Wv);unfold ptr at Wk qF;clear wL rH z_ ui sP zy Ws Wu Sa Wv o4 q4 s4 sQ ue e4 hg4 kE oA Zl e2 e2B Zm df ga gaB Ww Wq hHeld Wx x2 x3 x4 x2B x3B Zp I9 Ud BA BB Uc o2;generalize w4.setCell ⟨d,2,none⟩ (.slice (some ⟨g4,0,none⟩) (n+1) c4)=w5 at*;go_wp2;go_end0;exact⟨rfl,Z qF⟩
 ·go_simp;refine hK.out _ _ (Z I9) (λhHeld=>?_);clear hK ab9;refine wpAnyH_ready (rs:=[4]) (by kernel_rfl) (by simp) ?_;refine ea rfl (λab9 hK=>?_) fc;go_simp;refine hK.out _ _ (Z I9) (λhHeld=>?_);clear hK ab9;refine wpAnyH_ready (rs:=[10]) (by kernel_rfl) (by simp) ?_;refine ea rfl (λab9 hK=>?_) fc;(refine bX _ rfl (.tmp 7) (.tmp 12) 180 rfl N0 175 i0 (.pointer none) 1 8 underlying180 (Z HI) (Z HZ) (Z eI) (Z eJ) rfl (by decide) (.slice p n cp) n (dS pl) (by simp[Act.eval]) oA ⟨w.heap.size,0,none⟩ 1 1 [.pointer (some ⟨a,0,none⟩)] (by simp[Act.eval]) rfl (by intro j u E;match j,E with|0,E=>(simp at E;subst E;simp[Addr.add])) (by intro u hu;simp at hu;subst hu;rfl) (by omega) (by unfold maxLen;omega) (by omega) hNb _ rfl ?_;intro g4 c4 w4 o4 q4 hg4 kE;have e4:=q4.block d Uc.lt (d_ oA Uc (by decide));have sQ:w4.cell? ⟨d,2,none⟩=some (.slice p n cp):=(η (a:=⟨d,2,none⟩) e4).trans Zl;have ue:w4.frozen? ⟨d,2,none⟩=false:=(π (a:=⟨d,2,none⟩) e4).trans Zm;have s4:w4.cell? ⟨b2,0,none⟩=some (.pointer (some ⟨d,0,none⟩))/\w4.cell? ⟨b3,0,none⟩=some (.pointer (some ⟨g,i*2,none⟩))/\w4.cell? ⟨g,i*2,none⟩=some (.pointer (some ⟨a,0,none⟩)):=⟨(η (a:=⟨b2,0,none⟩) (q4.block b2 Zq.lt (d_ oA Zq (by decide)))).trans (Z I9).1,(η (a:=⟨b3,0,none⟩) (q4.block b3 Zr.lt (d_ oA Zr (by decide)))).trans (Z I9).2.1,(η (a:=⟨g,i*2,none⟩) (q4.block g Zs.lt (d_ oA Zs (by decide)))).trans (Z I9).2.2⟩);refine hK.out _ _ s4 (λhHeld=>?_);clear hK ab9;simp only[Act.put,aS];refine bJ (i:=11) (v:=(.pointer (some ⟨d,0,none⟩))) rfl (by kernel_rfl) (by kernel_rfl) (by kernel_rfl) (λ_ _ _ h=>h) (ε ⟨by rfl,?_⟩) hHeld ?_
  ·intro w hSw;go_simp
  simp only[Act.put];refine bJ (i:=12) (v:=(.pointer (some ⟨d,2,none⟩))) rfl (by kernel_rfl) (by kernel_rfl) (by kernel_rfl) (λ_ _ _ h=>h) (ε ⟨by rfl,?_⟩) hHeld ?_
  ·intro w hSw;go_simp
  simp only[Act.put];refine wpAnyH_ready (rs:=[13]) (by kernel_rfl) (by simp) ?_;refine ea rfl (λab9 hK=>?_) fc;go_simp;refine hK.out _ _ ((Z Ud) _ _ s4) (λhHeld=>?_);clear hK ab9;refine wpAnyH_done (by kernel_rfl) ?_ _;have wL:bD [some 175] N0 w w4:=(bD.below BA).trans (bD.grown q4 oA);have rH:(pl++[a]).length=n+1:=by simp[Z Zo]
  have z_:dS (pl++[a])=dS pl++[.pointer (some ⟨a,0,none⟩)]:=by unfold dS ptr;simp
  have ui:w4.ownsRow N0 175 1 (.slice (some ⟨g4,0,none⟩) (pl++[a]).length c4) (pl++[a]).length (dS (pl++[a])):=by rw[rH,z_];exact o4
  obtain⟨sP,zy⟩:=(Z HH).db.xX wL ui;rw[rH]at sP zy;obtain⟨TZ,Wq,Ws⟩:=sP.d1;obtain⟨Wu,Sa⟩:=pC Ws (x:=tn) hx;have Wv:=sP.pair (by rw[dp]) Sa Wq Wu;obtain⟨Wk,Ww,_,_⟩:=sP.cells hx;have gf6:=Ww (i*2);have Wx:=(Z Ff).b BA;have y4:(w4.setCell ⟨d,2,none⟩ (.slice (some ⟨g4,0,none⟩) (n+1) c4)).cell? ⟨b4,0,none⟩=some (.pointer (some ⟨tn,0,none⟩)):=(bu (λe=>(Z Ff).ne (Z HH).db.tg (by decide) (eW e).1.symm)).trans ((η (a:=⟨b4,0,none⟩) (q4.block b4 Wx.lt h4')).trans ((BA.cell (p:=⟨b4,0,none⟩) (Z Ff).lt).trans x4));have y3:(w4.setCell ⟨d,2,none⟩ (.slice (some ⟨g4,0,none⟩) (n+1) c4)).cell? ⟨b3,0,none⟩=some (.pointer (some ⟨g,i*2,none⟩)):=((Z Ud) _ _ s4).2.1;have qF:=I ((Z HH).own hN (zy.trans (Sa.mono (by decide) (ζ _))) Wv);unfold ptr at Wk qF;clear wL rH z_ ui sP zy Ws Wu Sa Wv o4 q4 s4 sQ ue e4 hg4 kE oA Zl e2 e2B Zm df ga gaB Ww Wq hHeld Wx x2 x3 x4 x2B x3B Zp I9 Ud BA BB Uc o2;generalize w4.setCell ⟨d,2,none⟩ (.slice (some ⟨g4,0,none⟩) (n+1) c4)=w5 at*;go_wp2;go_end0;exact⟨rfl,Z qF⟩
end
theorem Ni (w:World):Calls prog 250 #[] w λev w'=>ev=.returned (.tuple #[])/\w'=w:=by
 go_enter func250,ntmps250;go_wp2;go_end0;exact⟨rfl,rfl⟩
inductive x_ (ct:Nat->List Bl)(a b i:Nat)(o:Bl)(ws:List (Nat×Nat))(pl:List Nat):List (Nat×Nat)->List Nat->(Nat->List Bl)->Prop
 |room (h:(ct a).length<4):x_ ct a b i o ws pl ws pl (kQ ct a (ct a++[o]))
 |swap (h:(ct a).length=4) (O:ct b=[]):x_ ct a b i o ws pl (ws.set i (b,a)) pl (kQ ct b [o])
 |iF (tn:Nat) (h:(ct a).length=4) (O:ct b≠[]) (h3:tn∉ez ws pl):x_ ct a b i o ws pl (ws.set i (tn,b)) (pl++[a]) (kQ ct tn [o])
section
variable {w0:World}{N0:Nat}{U:Nat->Prop}{X:Nat->Option Obj}{c z d g:Nat}{sz:Int}{m:Nat}{mn lw hi:Int}{k:Nat}{nb fm F:Nat->Nat}{fr:Nat->List Nat}{ab5:Nat}{Q:List Sl}{V:Nat->Nd}{ws:List (Nat×Nat)}{pl:List Nat}{ct:Nat->List Bl}{w w':World}
inductive Pz (w0:World)(N0:Nat)(U:Nat->Prop)(X:Nat->Option Obj)(c z d g:Nat)(sz:Int)(m:Nat)(mn lw hi:Int)(k:Nat)(nb fm F:Nat->Nat)(fr:Nat->List Nat)(ab5:Nat)(Q:List Sl)(V:Nat->Nd)(ws:List (Nat×Nat))(pl:List Nat)(ct:Nat->List Bl)(x:Int)(oN oA:Int)(e:Nat->Addr)(w:World):Ending->World->Prop
 |bad (w':World) (hx:x<0\/(ws.length:Int)<=x) (h:DQ w0 N0 U X c z d g sz m mn lw hi k nb fm F fr ab5 Q V ws pl ct w') (hu:UK U w w'):Pz w0 N0 U X c z d g sz m mn lw hi k nb fm F fr ab5 Q V ws pl ct x oN oA e w (.returned (bc (e 1))) w'
 |lV (i:Nat) (w':World) (hx:x=i) (ja:i<ws.length) (hn:¬(iM m sz Q oN oA/\∀u∈ez ws pl,(oN,oA)∉ct u)) (h:DQ w0 N0 U X c z d g sz m mn lw hi k nb fm F fr ab5 Q V ws pl ct w') (hu:UK U w w'):Pz w0 N0 U X c z d g sz m mn lw hi k nb fm F fr ab5 Q V ws pl ct x oN oA e w (.returned (bc (e 8))) w'
 |yes (i a b:Nat) (kX:List (Nat×Nat)) (dC:List Nat) (qa:Nat->List Bl) (w':World) (hx:x=i) (dR:ws[i]?=some (a,b)) (ht:iM m sz Q oN oA) (hn:∀u∈ez ws pl,(oN,oA)∉ct u) (hg:x_ ct a b i (oN,oA) ws pl kX dC qa) (h:DQ w0 N0 U X c z d g sz m mn lw hi k nb fm F fr (ab5+1) Q V kX dC qa w') (hu:UK U w w'):Pz w0 N0 U X c z d g sz m mn lw hi k nb fm F fr ab5 Q V ws pl ct x oN oA e w (.returned .nilIface) w'
theorem DQ.nodup (h:DQ w0 N0 U X c z d g sz m mn lw hi k nb fm F fr ab5 Q V ws pl ct w):(ez ws pl).Nodup:=by
 obtain⟨ly,bs,q,f,rb,G,O,h3⟩:=h.ex;exact O.V
theorem DQ.low (h:DQ w0 N0 U X c z d g sz m mn lw hi k nb fm F fr ab5 Q V ws pl ct w):N0<=w.heap.size:=ck (eM h.db.ge h.db.tg.lt)
theorem DQ.Wy (h:DQ w0 N0 U X c z d g sz m mn lw hi k nb fm F fr ab5 Q V ws pl ct w)(hN:w0.heap.size<=N0)(hQ:ab5<=900000)(e:Nat->Addr)(he:gj w0 e)(x oN oA:Int):
  Calls prog 148 #[.pointer (some ⟨d,0,none⟩),.int .i64 x,.agg #[.int .i64 oN,.int .i64 oA]] w λev w'=>Pz w0 N0 U X c z d g sz m mn lw hi k nb fm F fr ab5 Q V ws pl ct x oN oA e w ev w':=by
 have F1:=χ (γ w.heap.size w) (cB oN oA);have q':=θ w #[.int .i64 oN,.int .i64 oA] 34;have q0:=q' 0;have q1:=q' 1;simp only[Δ,υ,ω]at q0 q1;have hs1:w.heap.size<(w.alloc (cB oN oA)).heap.size:=by simp
 have H1:=h.b F1;obtain⟨TZ,e1,_⟩:=H1.db.d1;have Zt:=I (h.wM F1);have RB:Hid (∀w',(x<0\/(ws.length:Int)<=x)->DQ w0 N0 U X c z d g sz m mn lw hi k nb fm F fr ab5 Q V ws pl ct w'->UK U w w'->Pz w0 N0 U X c z d g sz m mn lw hi k nb fm F fr ab5 Q V ws pl ct x oN oA e w (.returned (bc (e 1))) w'):=λw' G O h3=>.bad w' G O h3;have RS:Hid (∀(i:Nat) w',x=i->i<ws.length->¬(iM m sz Q oN oA/\∀u∈ez ws pl,(oN,oA)∉ct u)->DQ w0 N0 U X c z d g sz m mn lw hi k nb fm F fr ab5 Q V ws pl ct w'->UK U w w'->Pz w0 N0 U X c z d g sz m mn lw hi k nb fm F fr ab5 Q V ws pl ct x oN oA e w (.returned (bc (e 8))) w'):=λi w' G O h3 h4 h5=>.lV i w' G O h3 h4 h5;have RY:Hid (∀(i a b:Nat) (kX:List (Nat×Nat)) (dC:List Nat) (qa:Nat->List Bl) w',x=i->ws[i]?=some (a,b)->iM m sz Q oN oA->(∀u∈ez ws pl,(oN,oA)∉ct u)->x_ ct a b i (oN,oA) ws pl kX dC qa->DQ w0 N0 U X c z d g sz m mn lw hi k nb fm F fr (ab5+1) Q V kX dC qa w'->UK U w w'->Pz w0 N0 U X c z d g sz m mn lw hi k nb fm F fr ab5 Q V ws pl ct x oN oA e w (.returned .nilIface) w'):=λi a b kX dC qa w' G O h3 h4 h5 h6 h7=>.yes i a b kX dC qa w' G O h3 h4 h5 h6 h7;have dD:=I H1;have HE:=I he;clear h F1 H1 he q';generalize hTR:Pz w0 N0 U X c z d g sz m mn lw hi k nb fm F fr ab5 Q V ws pl ct x oN oA e w=TR at*;clear hTR;unfold bc at*;go_enter func148,ntmps148;go_upto_region 1 with(fail);generalize w.alloc (cB oN oA)=W at*;by_cases hx:x<0\/(ws.length:Int)<=x
 ·have Fc:=I (t_ e1 hx e ((Z HE).below (Z dD).b0));have HX:=I hx;clear RS RY e1 hx;unfold bc at Fc;go_wp2_with fail;refine(Z Fc).mono ?_;rintro ev w1⟨rfl,b1⟩;have H2:=I ((Z dD).b b1);have xY:=I ((Z Zt).trans ((Z dD).wM b1));clear Fc dD Zt b1;go_wp2;exact(Z RB) _ (Z HX) (Z H2) (Z xY)
 ·obtain⟨i,rfl⟩:∃i:Nat,x=i:=⟨x.toNat,by omega⟩;have ja:i<ws.length:=by omega
  obtain⟨⟨a,b⟩,dR⟩:∃ab,ws[i]?=some ab:=⟨_,ξ ja⟩;have Fc:=I (rG e1 ja);have uh:=I dR;clear RB e1 hx dR;go_wp2_with fail;refine(Z Fc).mono ?_;rintro ev w1⟨rfl,b1⟩;have iu:=I ((Z dD).b b1);have xY:=I ((Z Zt).trans ((Z dD).wM b1));have y0:=(b1.cell (p:=⟨w.heap.size,0,none⟩) hs1).trans q0;have y1:=(b1.cell (p:=⟨w.heap.size,1,none⟩) hs1).trans q1;have hs2:w.heap.size<w1.heap.size:=ι hs1 b1.size;clear Fc dD Zt b1 q0 q1 hs1;obtain⟨ga,gb,_,_⟩:=(Z iu).cells (Z uh);obtain⟨ma,mb,hab⟩:=(Z iu).mem (Z uh);obtain⟨PC,wN⟩:=(Z iu).CX (Z uh);obtain⟨ra,Ue,hla⟩:=(Z iu).oh ma;obtain⟨r2,vG,hlb⟩:=(Z iu).oh mb;unfold ptr at ga gb;by_cases hl:(ct a).length<4
  ·have xJ:=I (Wn (c:=c) (d:=d) ga Ue hl);have Zu:=I PC;have HMA:=I ma;have HL:=I hl;clear ga gb Ue vG mb wN PC ma hab hlb hla hl;go_wp2_with fail;refine(Z xJ).mono ?_;rintro ev w2⟨rfl,b2⟩;have z0:=(b2.cell (p:=⟨w.heap.size,0,none⟩) hs2).trans y0;have z1:=(b2.cell (p:=⟨w.heap.size,1,none⟩) hs2).trans y1;have eD:=I ((Z iu).b b2);have Fe:=I ((Z xY).trans ((Z iu).wM b2));have CZ:=I ((Z eD).x.lay hN (by omega) e (Z HE) (Z HMA) (Z HL) oN oA);clear xJ iu xY b2 y0 y1 hs2;go_wp2_with fail;refine(Z CZ).mono ?_;intro ev w3 hR;cases hR with
   |no _ J hn =>
    have H4:=I ((Z eD).b J);have CY:=I ((Z Fe).trans ((Z eD).wM J));have uj:=I hn;clear CZ J hn;unfold bc;go_wp2;exact(Z RS) i _ rfl ja (Z uj) (Z H4) (Z CY)
   |yes _ ht hn hX hu _ =>
    have H4:=I (hX.q (Z eD).nodup (λt ht=>ht) (λt ht hno=>absurd ht hno) (λt ht=>by
     rw[bH (λ(e:t=a)=>(Z Zu) (by rw[<- e];exact ht))];exact(Z eD).pf t ht) (Nat.le_succ_of_le (Z eD).pq))
    have CY:=I ((Z Fe).trans hu);have uj:=I hn;have CH:=I ht;have Wz:Hid (x_ ct a b i (oN,oA) ws pl ws pl (kQ ct a (ct a++[(oN,oA)]))):=x_.room (Z HL);clear CZ ht hn hX hu;go_wp2_with fail;refine(Ni w3).mono ?_;rintro ev w4⟨rfl,rfl⟩;go_wp2;exact(Z RY) i a b _ _ _ _ rfl (Z uh) (Z CH) (Z uj) (Z Wz) (Z H4) (Z CY)
  ·have hl4:(ct a).length=4:=by omega
   have HL4:=I hl4;have Zu:=I PC;have HPB:=I wN;have HMB:=I mb;by_cases J:ct b=[]
   ·have xJ:=I (Wo (c:=c) (d:=d) ga gb Ue vG hl J);have HB:=I J;have WB:(ct b).length<4:=by rw[J];simp
    have TV:=I WB;clear ga gb Ue vG mb wN PC ma hab hlb hla hl hl4 J WB;go_wp2_with fail;refine(Z xJ).mono ?_;rintro ev w2⟨rfl,b2⟩;have z0:=(b2.cell (p:=⟨w.heap.size,0,none⟩) hs2).trans y0;have z1:=(b2.cell (p:=⟨w.heap.size,1,none⟩) hs2).trans y1;have eD:=I ((Z iu).b b2);have Fe:=I ((Z xY).trans ((Z iu).wM b2));have CZ:=I ((Z eD).x.lay hN (by omega) e (Z HE) (Z HMB) (Z TV) oN oA);clear xJ iu xY b2 y0 y1 hs2;go_wp2_with fail;refine(Z CZ).mono ?_;intro ev w3 hR;cases hR with
    |no _ J hn =>
     have H4:=I ((Z eD).b J);have CY:=I ((Z Fe).trans ((Z eD).wM J));have uj:=I hn;clear CZ J hn;unfold bc;go_wp2;exact(Z RS) i _ rfl ja (Z uj) (Z H4) (Z CY)
    |yes _ ht hn hX hu _ =>
     have H4:=hX.q (Z eD).nodup (λt ht=>ht) (λt ht hno=>absurd ht hno) (λt ht=>by
      rw[bH (λ(e:t=b)=>(Z HPB) (by rw[<- e];exact ht))];exact(Z eD).pf t ht) (Nat.le_succ_of_le (Z eD).pq)
     rw[Z HB,aT]at H4;have Zb:=I (H4.swapped hN (Z uh));have CY:=I ((Z Fe).trans hu);have uj:=I hn;have CH:=I ht;have Wz:Hid (x_ ct a b i (oN,oA) ws pl (ws.set i (b,a)) pl (kQ ct b [(oN,oA)])):=x_.swap (Z HL4) (Z HB);clear CZ ht hn hX hu H4;go_wp2_with fail;refine(Z Zb).mono ?_;rintro ev w4⟨rfl,H5,Nh⟩;have gW:=I H5;have KT:=I ((Z CY).trans Nh);clear H5 Nh;go_wp2;exact(Z RY) i a b _ _ _ _ rfl (Z uh) (Z CH) (Z uj) (Z Wz) (Z gW) (Z KT)
   ·have Pv:=(Z iu).db.d0;unfold ptr at Pv;have xJ:=I (Wp (c:=c) (d:=d) (Z iu).low Pv ga gb Ue vG hl J);have HB:=I J;clear ga gb Ue vG mb wN PC ma hab hlb hla hl hl4 J Pv;go_wp2_with fail;refine(Z xJ).mono ?_;rintro ev w2⟨tn,b2',b3,b4,rfl,b2,EM,hT,hb4,⟨x2,x3,x4⟩,t2,t3,t4⟩;have z0:=(b2.cell (p:=⟨w.heap.size,0,none⟩) hs2).trans y0;have z1:=(b2.cell (p:=⟨w.heap.size,1,none⟩) hs2).trans y1;have hH3:=(Z iu).b b2;have hX3:=(Z iu).x.add b2 EM hT;have hno:tn∉ez ws pl:=λhm=>by
     obtain⟨r5,Zf,_⟩:=(Z iu).oh hm;have:=Zf.tg.lt;omega
    have Sc:=I hno;have eD:=I hH3;have Nj:=I hX3;have Fe:=I ((Z xY).trans ((Z iu).wM b2));have CZ:=I (hX3.lay hN (by omega) e (Z HE) (t:=tn) (by simp) (by rw[cH];simp) oN oA);have ni:=I t2;have vC:=I t3;have Ff:=I t4;have aaL:Hid (∀p cp,w2.cell? ⟨d,2,none⟩=some (.slice p pl.length cp)->some b4≠(Value.slice p pl.length cp).ownBlock):=λp cp WC e=>by
     obtain⟨p',cp',e2,o2⟩:=(Z iu).db.d2;have e3:=(b2.cell (p:=⟨d,2,none⟩) (Z iu).db.tg.lt).trans e2;rw[e3]at WC;simp only[τ,ψ,aZ]at WC;obtain⟨rfl,rfl⟩:=WC;have:=(o2.lt b4 e.symm).2;omega
    have HTL:=I ((Z iu).db.tg.b b2);have wN:=(Z iu).pq;clear xJ xY b2 y0 y1 hs2 hH3 hX3 hT t2 t3 t4 hno;go_wp2_with fail;refine(Z CZ).mono ?_;intro ev w3 hR;cases hR with
    |no _ J hn =>
     have H4:=I ((Z eD).b J);have CY:=I ((Z Fe).trans ((Z eD).wM J));have uj:Hid (¬(iM m sz Q oN oA/\∀u∈ez ws pl,(oN,oA)∉ct u)):=λ⟨G,O⟩=>hn ⟨G,λu hu hm=>by
      rcases ae.1 hu with e|hu
      ·rw[e,cH]at hm;cases hm
      ·rw[bH (λ(e:u=tn)=>(Z Sc) (by rw[<- e];exact hu))]at hm;exact O u hu hm⟩
     clear CZ J hn;unfold bc;go_wp2;exact(Z RS) i _ rfl ja (Z uj) (Z H4) (Z CY)
    |yes _ ht hn hX hu jG =>
     have e2:=(η (w:=w2) (a:=⟨b2',0,none⟩) (jG b2' 23 (Z ni) (by decide) (by decide))).trans x2;have e3:=(η (w:=w2) (a:=⟨b3,0,none⟩) (jG b3 171 (Z vC) (by decide) (by decide))).trans x3;have e4:=(η (w:=w2) (a:=⟨b4,0,none⟩) (jG b4 175 (Z Ff) (by decide) (by decide))).trans x4;have ed:=η (w:=w2) (a:=⟨d,2,none⟩) (jG d 182 (Z HTL) (by decide) (by decide));have jN:N0<=w3.heap.size:=ck (eM hX.db.ge hX.db.tg.lt);have KU:=I (hX.R_ hN jN (by omega) (Z uh) e2 e3 e4 ((Z ni).blk (jG b2' 23 (Z ni) (by decide) (by decide))) ((Z vC).blk (jG b3 171 (Z vC) (by decide) (by decide))) ((Z Ff).blk (jG b4 175 (Z Ff) (by decide) (by decide))) (λp cp WC=>(Z aaL) p cp (ed.symm.trans WC)));have CY:=I ((Z Fe).trans hu);have uj:Hid (∀u∈ez ws pl,(oN,oA)∉ct u):=λu hu hm=>by
      have:=hn u (aD _ hu);rw[bH (λ(e:u=tn)=>(Z Sc) (by rw[<- e];exact hu))]at this;exact this hm
     have CH:=I ht;have Wz:Hid (x_ ct a b i (oN,oA) ws pl (ws.set i (tn,b)) (pl++[a]) (kQ ct tn [(oN,oA)])):=x_.iF tn (Z HL4) (Z HB) (Z Sc);clear CZ ht hn hX hu jG e2 e3 e4 ed x2 x3 x4;go_wp2_with fail;refine(Z KU).mono ?_;rintro ev w4⟨rfl,X5,Nh⟩;have xW:=fN pl (Z uh);have xc:=(qI (ws.set i (tn,b)) pl a).trans (List.Perm.cons a (kF ja tn b pl));have Cl:(ez (ws.set i (tn,b)) (pl++[a])).Perm (tn::ez ws pl):=(xc.trans (List.Perm.swap tn a _)).trans (List.Perm.cons tn xW.symm);have Gx:kQ (kQ ct tn []) tn (kQ ct tn [] tn++[(oN,oA)])=kQ ct tn [(oN,oA)]:=by
      funext u;by_cases e:u=tn
      ·rw[e,cH,cH,cH];rfl
      ·rw[bH e,bH e,bH e]
     rw[Gx]at X5;have gW:=I (X5.q (Cl.nodup_iff.2 (a_.2 ⟨Z Sc,(Z eD).nodup⟩)) (λt ht=>Cl.mem_iff.1 ht) (λt ht hno=>absurd (Cl.mem_iff.2 ht) hno) (λt ht=>by
      have hm:t∈ez ws pl:=by
       rcases aC.1 ht with G|G
       ·unfold ez;exact cX _ G
       ·simp only[aw]at G;rw[G];exact((Z eD).mem (Z uh)).1
      rw[bH (λ(e:t=tn)=>(Z Sc) (by rw[<- e];exact hm))];rcases aC.1 ht with G|G
      ·exact(Z eD).pf t G
      ·simp only[aw]at G;rw[G];exact Z HL4) (by simp;omega))
     have KT:=I ((Z CY).trans Nh);clear X5 Nh xW xc Cl Gx;go_wp2;exact(Z RY) i a b _ _ _ _ rfl (Z uh) (Z CH) (Z uj) (Z Wz) (Z gW) (Z KT)
end
variable {N0 cp:Nat}{w:World}{p:Option Addr}{ct:Nat->List Bl}{L:List Nat}
theorem vH:(prog.info? 177).map (λi=>(i.zero,i.size,i.bytes))=some (some (.agg #[.pointer none,.pointer none]),2,16):=by kernel_rfl
structure DN (N0:Nat)(w:World)(c:Nat)(ws:List (Nat×Nat))(W:World):Prop where
 b:Below w.heap.size w W
 d0:W.cell? ⟨w.heap.size,0,none⟩=some (ptr c)
 d1:∃v,W.cell? ⟨w.heap.size,1,none⟩=some v/\W.ownsRow w.heap.size 177 2 v ws.length (eB ws)
 d2:W.cell? ⟨w.heap.size,2,none⟩=some (.slice none 0 0)
 tg:Tag W w.heap.size 182
 fz:∀o,W.frozen? ⟨w.heap.size,o,none⟩=false
 V:(ez ws []).Nodup
 tr:∀t∈ez ws [],jQ N0 W c t t []/\w.heap.size<t
theorem C0 (ws:List (Nat×Nat))(a b:Nat):ez (ws++[(a,b)]) []=ez ws []++[a,b]:=by unfold ez;simp
theorem Fg (ws:List (Nat×Nat))(a b:Nat):eB (ws++[(a,b)])=eB ws++[ptr a,ptr b]:=by unfold eB;simp
theorem DN.step {wr w4:World}{c:Nat}{ws:List (Nat×Nat)}(h:DN N0 w c ws wr)(hN:N0<=w.heap.size){A B:Nat}(hAB:(A=wr.heap.size/\B=wr.heap.size+1)\/(A=wr.heap.size+1/\B=wr.heap.size)){n g4 c4:Nat}{S:Array Value}(hl:ws.length=n)(e1:wr.cell? ⟨w.heap.size,1,none⟩=some (.slice p n cp))(o1:wr.ownsRow w.heap.size 177 2 (.slice p n cp) n (eB ws))(o4:w4.ownsRow w.heap.size 177 2 (.slice (some ⟨g4,0,none⟩) (n+1) c4) (n+1) (eB ws++[.pointer (some ⟨A,0,none⟩),.pointer (some ⟨B,0,none⟩)]))(q4:(((wr.alloc (cD c)).alloc (cD c)).alloc (.cells S 177)).drew.grownBy w4 (Value.slice p n cp).ownBlock):
  DN N0 w c (ws++[(A,B)]) (w4.setCell ⟨w.heap.size,1,none⟩ (.slice (some ⟨g4,0,none⟩) (n+1) c4)):=by
 have hNr:N0<=wr.heap.size:=σ hN h.b.size;have hs1:(wr.alloc (cD c)).heap.size=wr.heap.size+1:=by simp
 have T1:=rF N0 c wr hNr;have T2:=rF N0 c (wr.alloc (cD c)) (by rw[hs1];omega);rw[hs1]at T2;have B12:=χ (γ (wr.alloc (cD c)).heap.size (wr.alloc (cD c))) (cD c);have B23:=(χ (γ ((wr.alloc (cD c)).alloc (cD c)).heap.size ((wr.alloc (cD c)).alloc (cD c))) (.cells S 177)).drew;have I_:Below wr.heap.size wr (((wr.alloc (cD c)).alloc (cD c)).alloc (.cells S 177)).drew:=(χ (χ (χ (γ _ _) _) _) _).drew;have T1':=(T1.b B12).b B23;have T2':=T2.b B23;have oA:=aN o1 I_;have td:=h.tg.b I_;have tgb:∀t t',Tag (((wr.alloc (cD c)).alloc (cD c)).alloc (.cells S 177)).drew t t'->t'≠177->t≠w.heap.size->(w4.setCell ⟨w.heap.size,1,none⟩ (.slice (some ⟨g4,0,none⟩) (n+1) c4)).heap[t]?=(((wr.alloc (cD c)).alloc (cD c)).alloc (.cells S 177)).drew.heap[t]?:=λt t' ht hn hd=>(μ _ _ _ _ (by simpa using hd)).trans (q4.block t ht.lt (d_ oA ht hn));have e4:=q4.block w.heap.size td.lt (d_ oA td (by decide));have hw:=h.b.size;have hwl:=h.tg.lt;have Fh:∀j,w4.cell? ⟨w.heap.size,j,none⟩=wr.cell? ⟨w.heap.size,j,none⟩:=λj=>(η (a:=⟨w.heap.size,j,none⟩) e4).trans (I_.cell (p:=⟨w.heap.size,j,none⟩) hwl);have G4:Tag w4 g4 177:=by
  rcases o4.2 with⟨e3,_⟩|⟨g',cap',cur,e3,_,hh,_⟩
  ·cases e3
  ·simp only[ψ,τ,av]at e3;obtain⟨⟨rfl,_⟩,_⟩:=e3;exact⟨cur,_,hh⟩
 have hgd:g4≠w.heap.size:=G4.ne (td.blk e4) (by decide);have hT:∀t,(t=wr.heap.size\/t=wr.heap.size+1)->jQ N0 (w4.setCell ⟨w.heap.size,1,none⟩ (.slice (some ⟨g4,0,none⟩) (n+1) c4)) c t t []/\w.heap.size<t:=λt ht=>by
  rcases ht with rfl|rfl
  ·have:=tgb _ _ T1'.tg (by decide) (by omega);exact⟨T1'.same this this,by omega⟩
  ·have:=tgb _ _ T2'.tg (by decide) (by omega);exact⟨T2'.same this this,by omega⟩
 refine⟨?_,(bu (by simp)).trans ((Fh 0).trans h.d0),⟨_,fK ((Fh 1).trans e1),?_⟩,(bu (by simp)).trans ((Fh 2).trans h.d2),(td.blk e4).set _ _,λo=>?_,?_,λt ht=>?_⟩
 ·have hK:Below w.heap.size w w4:=by
   refine⟨q4.os.trans (I_.os.trans h.b.os),q4.tape.trans (I_.tape.trans h.b.tape),q4.output.trans (I_.output.trans h.b.output),σ h.b.size (σ I_.size q4.size),λk D=>?_⟩;refine(q4.block k (ι (ι D hw) I_.size) (λe=>?_)).trans ((I_.block k (ι D hw)).trans (h.b.block k D));have:=(o1.lt k e.symm).1;omega
  exact hK.setCell (by simp) _
 ·rw[Fg,φ,hl];exact aI o4 (λg hg=>by
   simp only[Value.ownBlock,τ]at hg;subst hg;exact μ _ _ _ _ hgd)
 ·rw[Ψ];exact(π (a:=⟨w.heap.size,o,none⟩) e4).trans ((I_.frozen (p:=⟨w.heap.size,o,none⟩) hwl).trans (h.fz o))
 ·rw[C0];have hlt:∀t∈ez ws [],t<wr.heap.size:=λt ht=>(h.tr t ht).1.tg.lt;refine aF.2 ⟨h.V,?_,λx hx y hy e=>?_⟩
  ·rcases hAB with⟨rfl,rfl⟩|⟨rfl,rfl⟩<;>simp
  ·subst e;have:=hlt x hx;simp only[ae,aR,dg]at hy;rcases hAB with⟨rfl,rfl⟩|⟨rfl,rfl⟩<;>omega
 ·rw[C0]at ht;rcases aC.1 ht with G|G
  ·have hh:=h.tr t G;have J:=(hh.1.b I_);have:=tgb t 286 J.tg (by decide) (by omega);exact⟨J.same this this,hh.2⟩
  ·simp only[ae,aR,dg]at G;exact hT t (by omega)
theorem Nk (N0:Nat)(c:Nat)(x:Nat)(w:World)(hN:N0<=w.heap.size)(hx:1<=x/\x<=4):Calls prog 67 #[.pointer (some ⟨c,0,none⟩),.int .i64 (x:Int)] w λev w'=>ev=.returned (.tuple #[.pointer (some ⟨w.heap.size,0,none⟩),.nilIface])/\∃ws,ws.length=x/\DN N0 w c ws w':=by
 obtain⟨i0,eO,hz0,hz1,hz2⟩:=aY vH;have HI:=I eO;have HZ:=I hz0;have eI:=I hz1;have eJ:=I hz2;clear eO hz0 hz1 hz2;have F1:=χ (γ w.heap.size w) (.cells #[.pointer (some ⟨c,0,none⟩),.slice none 0 0,.slice none 0 0] 182);have q':=θ w #[.pointer (some ⟨c,0,none⟩),.slice none 0 0,.slice none 0 0] 182;have D0:Hid (DN N0 w c [] (w.alloc (.cells #[.pointer (some ⟨c,0,none⟩),.slice none 0 0,.slice none 0 0] 182))):=⟨F1,q' 0,⟨_,q' 1,Ξ _ _ _ _⟩,q' 2,bB _ _ _,λo=>aG _ _ w.heap.size o rfl,dm,λt ht=>by cases ht⟩;clear F1 q';have d1:decide ((x:Int)<1)=false:=by simp;omega
 have d2:decide ((x:Int)>4)=false:=by simp;omega
 go_enter func67,ntmps67;go_upto_region 6 with(fail);generalize w.alloc (.cells #[.pointer (some ⟨c,0,none⟩),.slice none 0 0,.slice none 0 0] 182)=W at*;go_wp2_with fail;go_loopw [21] (λs wr=>∃(j:Nat) (ws:List (Nat×Nat)),s=.int .i64 j/\j<=x/\ws.length=j/\Hid (DN N0 w c ws wr)) (λs _=>x-(intOf s).toNat)
 case atStart=>exact⟨0,[],rfl,Γ _,rfl,D0⟩
 case round =>
  clear D0;obtain⟨j,ws,rfl,E,hl,hD⟩:=hrel;by_cases Mt:j<x
  ·have qm:(j:Int)<(x:Int):=by omega
   have um:=Z hD;obtain⟨v,e1,o1⟩:=um.d1;rw[hl]at o1;obtain⟨p,cp,rfl⟩:=aX o1;have dl:=um.tg.lt;have hNr:N0<=wr.heap.size:=σ hN um.b.size;have hdf:=um.fz 1;have tgd:=um.tg;have B1:Below wr.heap.size wr (wr.alloc (cD c)):=χ (γ _ _) _;have B2:Below wr.heap.size wr ((wr.alloc (cD c)).alloc (cD c)):=χ (χ (γ _ _) _) _;have BX:Below wr.heap.size wr (((wr.alloc (cD c)).alloc (cD c)).alloc (.cells #[.pointer (some ⟨wr.heap.size,0,none⟩),.pointer (some ⟨(wr.heap.size+1),0,none⟩)] 177)).drew:=(χ (χ (χ (γ _ _) _) _) _).drew;have e1a:=(B1.cell (p:=⟨w.heap.size,1,none⟩) dl).trans e1;have e1b:=(B2.cell (p:=⟨w.heap.size,1,none⟩) dl).trans e1;have e1x:(((wr.alloc (cD c)).alloc (cD c)).alloc (.cells #[.pointer (some ⟨wr.heap.size,0,none⟩),.pointer (some ⟨(wr.heap.size+1),0,none⟩)] 177)).cell? ⟨w.heap.size,1,none⟩=some (.slice p j cp):=(BX.cell (p:=⟨w.heap.size,1,none⟩) dl).trans e1;have oAx:=aN o1 BX;have tAx:=tgd.b BX;have zAx:=(⟨(BX.cell (p:=⟨w.heap.size,1,none⟩) dl).trans e1,(BX.frozen (p:=⟨w.heap.size,1,none⟩) dl).trans hdf⟩:(((wr.alloc (cD c)).alloc (cD c)).alloc (.cells #[.pointer (some ⟨wr.heap.size,0,none⟩),.pointer (some ⟨(wr.heap.size+1),0,none⟩)] 177)).drew.cell? ⟨w.heap.size,1,none⟩=some (.slice p j cp)/\(((wr.alloc (cD c)).alloc (cD c)).alloc (.cells #[.pointer (some ⟨wr.heap.size,0,none⟩),.pointer (some ⟨(wr.heap.size+1),0,none⟩)] 177)).drew.frozen? ⟨w.heap.size,1,none⟩=false);have LZ:w.heap.size<=(((wr.alloc (cD c)).alloc (cD c)).alloc (.cells #[.pointer (some ⟨wr.heap.size,0,none⟩),.pointer (some ⟨(wr.heap.size+1),0,none⟩)] 177)).drew.heap.size:=σ um.b.size BX.size;have hs2:((wr.alloc (cD c)).alloc (cD c)).heap.size=wr.heap.size+1+1:=by simp
   have nx:=θ ((wr.alloc (cD c)).alloc (cD c)) #[.pointer (some ⟨wr.heap.size,0,none⟩),.pointer (some ⟨wr.heap.size+1,0,none⟩)] 177;rw[hs2]at nx;have n0x:=nx 0;have n1x:=nx 1;simp only[Δ,υ,ω]at n0x n1x;clear nx hs2;clear um B1 B2 BX;go_wp2_with fail;go_region_law (first
    |(refine bX _ rfl (.tmp 27) (.tmp 33) 179 rfl w.heap.size 177 i0 (.agg #[.pointer none,.pointer none]) 2 16 underlying179 (Z HI) (Z HZ) (Z eI) (Z eJ) rfl (by decide) (.slice p j cp) j (eB ws) (by simp[Act.eval]) oAx ⟨wr.heap.size+1+1,0,none⟩ 1 1 [.pointer (some ⟨wr.heap.size,0,none⟩),.pointer (some ⟨(wr.heap.size+1),0,none⟩)] (by simp[Act.eval]) rfl (by intro j' u E;match j',E with|0,E=>(simp at E;subst E;simp[Addr.add,n0x])|1,E=>(simp at E;subst E;simp[Addr.add,n1x])) (by intro u hu;simp at hu;rcases hu with rfl|rfl<;>rfl) (by omega) (by unfold maxLen;omega) (by omega) LZ _ rfl ?_;intro g4 c4 w4 o4 q4 hg4 kE;have e4:=q4.block w.heap.size tAx.lt (d_ oAx tAx (by decide));have sQ:w4.cell? ⟨w.heap.size,1,none⟩=some (.slice p j cp):=(η (a:=⟨w.heap.size,1,none⟩) e4).trans zAx.1;have ue:w4.frozen? ⟨w.heap.size,1,none⟩=false:=(π (a:=⟨w.heap.size,1,none⟩) e4).trans zAx.2;have HDS:=I ((Z hD).step hN (A:=wr.heap.size) (B:=(wr.heap.size+1)) (ε ⟨rfl,rfl⟩) hl e1 o1 o4 q4))
    |(go_simp;go_at_call 145;refine(CP N0 c _ (by first|exact hNr|(simp;omega))).mono ?_;rintro ev w'⟨rfl,rfl⟩))
   all_goals
    have rH:(ws++[(wr.heap.size,wr.heap.size+1)]).length=j+1:=by simp[hl]
    clear sQ ue e4 o4 q4 hg4 kE e1 e1a e1b e1x oAx tAx zAx n0x n1x o1;generalize w4.setCell ⟨w.heap.size,1,none⟩ (.slice (some ⟨g4,0,none⟩) (j+1) c4)=w5 at*;go_wp2_with fail;go_roundw;case rel=>exact⟨j+1,_,by go_num,by omega,rH,HDS⟩
    case measure=>simp[intOf];omega
  ·obtain rfl:j=x:=by omega
   have kn:¬(j:Int)<j:=by omega
   go_wp2_with fail;go_ret2;exact⟨rfl,ws,hl,Z hD⟩
section
variable {w0:World}{N0:Nat}{X:Nat->Option Obj}{c z g:Nat}{sz:Int}{m:Nat}{mn lw hi:Int}{k:Nat}{nb fm F:Nat->Nat}{fr:Nat->List Nat}{Q:List Sl}{V:Nat->Nd}{ws:List (Nat×Nat)}{w w':World}
theorem DQ.fresh {ly:Nat×Obj}{bs:List Nat}(h:PS N0 w c z (ly.1,ly.2,X) sz m bs Q mn lw hi k nb fm F V fr)(J:Below w0.heap.size w0 w)(hN:N0<=w.heap.size)(Nq:ly.2=.map #[] 0){ws:List (Nat×Nat)}(hw:1<=ws.length)(hD:DN N0 w c ws w'):∃g,DQ w0 N0 (λ_=>False) X c z w.heap.size g sz m mn lw hi k nb fm F fr 0 Q V ws [] (λ_=>[]) w':=by
 have h':=h.b hD.b;obtain⟨v,e1,o1⟩:=hD.d1;obtain⟨g,cap,rfl,hg,hl⟩:=o1.form (by omega);have hm:Ml w' ly.1 0 (λ_ _=>none):=Ml.empty (by rw[h'.c.ym.lm,Nq]);refine⟨g,bW J hD.b,⟨ly,bs,0,_,λt=>t,h',⟨hD.V,λt ht=>(hD.tr t ht).1,λt _ u _ hne=>hne,λ_ _=>id,hm,h'.c.ym.lg,λa b t=>⟨λe=>(by cases e),λ⟨_,e⟩=>(by cases e)⟩,λt _=>⟨dm,by simp,λo ho=>by cases ho⟩⟩,ζ _⟩,⟨hD.d0,⟨cap,e1,ia o1 hN⟩,⟨none,0,hD.d2,Ξ _ _ _ _⟩,hD.tg,hN,hD.fz⟩,(λt ht=>by cases ht),(λt _ o ho=>by cases ho),(λ_ h=>False.elim h),(λ_ h=>False.elim h),Γ _⟩
end
section
variable {w0:World}{N0:Nat}{U:Nat->Prop}{X:Nat->Option Obj}{c z d g:Nat}{sz:Int}{m:Nat}{mn lw hi:Int}{k:Nat}{nb fm F:Nat->Nat}{fr:Nat->List Nat}{ab5:Nat}{Q:List Sl}{V:Nat->Nd}{ws:List (Nat×Nat)}{pl:List Nat}{ct:Nat->List Bl}{w:World}
theorem DQ.four (h:DQ w0 N0 U X c z d g sz m mn lw hi k nb fm F fr ab5 Q V ws pl ct w):∀x∈ws,(ct x.1).length<=4/\(ct x.2).length<=4:=λx hx=>by
 obtain⟨i,hi⟩:=List.getElem?_of_mem hx;obtain⟨ha,J,_⟩:=h.mem (a:=x.1) (b:=x.2) hi;obtain⟨_,_,G⟩:=h.oh ha;obtain⟨_,_,O⟩:=h.oh J;exact⟨G,O⟩
end
theorem kT.nil {ct:Nat->List Bl}{a b a' b':Nat}{pl dC:List Nat}(h:kT ct a b pl a' b' dC)(hp:pl=[]):dC=[]/\((a'=a/\b'=b/\ct a≠[])\/(a'=b/\b'=a/\ct a=[])):=by
 cases h with
 |keep _ G=>exact⟨hp,ε ⟨rfl,rfl,G⟩⟩
 |swap _ G O=>exact⟨hp,δ ⟨rfl,rfl,G⟩⟩
 |none G O=>exact⟨rfl,δ ⟨rfl,rfl,G⟩⟩
 |iF p t G O=>simp at hp
structure LS (w0:World)(N0:Nat)(U:Nat->Prop)(X:Nat->Option Obj)(c z d g:Nat)(sz:Int)(m:Nat)(mn lw hi:Int)(nb fm F:Nat->Nat)(fr:Nat->List Nat)(pg n:Nat)(gv:Prop)(ab5:Nat)(l st:List Bl)(w:World):Prop where
 ex:∃Q V a b rest ct,DQ w0 N0 U X c z d g sz m mn lw hi 1 nb fm F fr ab5 Q V ((a,b)::rest) [] ct w/\Np pg m (V 0) Q l.length/\rest.length+1=n/\st=ct b++ct a/\(gv->ct b=[]\/(ct b).length=4)/\(∀t∈ez rest [],ct t=[])/\∀o∈l,iM m sz Q o.1 o.2
 V:l.Nodup
 f0:fr 0=[0]
 mm:1<=m/\m<=64
section
variable {w0:World}{N0:Nat}{U:Nat->Prop}{X:Nat->Option Obj}{c z d g:Nat}{sz:Int}{m:Nat}{mn lw hi:Int}{nb fm F:Nat->Nat}{fr:Nat->List Nat}{pg n:Nat}{gv:Prop}{ab5:Nat}{l st:List Bl}{w:World}
theorem LS.b0 (h:LS w0 N0 U X c z d g sz m mn lw hi nb fm F fr pg n gv ab5 l st w):Below w0.heap.size w0 w:=by
 obtain⟨Q,V,a,b,rest,ct,G,_⟩:=h.ex;exact G.b0
end
section
variable {w w':World}
structure Bx (w:World)(p:Nat)(o:Bl):Prop where
 b0:w.cell? ⟨p,0,none⟩=some (.int .i64 o.1)
 b1:w.cell? ⟨p,1,none⟩=some (.int .i64 o.2)
theorem Bx.blk {p:Nat}{o:Bl}(h:Bx w p o)(J:w'.heap[p]?=w.heap[p]?):Bx w' p o:=⟨(η (a:=⟨p,0,none⟩) J).trans h.b0,(η (a:=⟨p,1,none⟩) J).trans h.b1⟩
theorem Bx.lt {p:Nat}{o:Bl}(h:Bx w p o):p<w.heap.size:=aa _ _ h.b0
theorem Bx.b {p:Nat}{o:Bl}(h:Bx w p o)(J:Below w.heap.size w w'):Bx w' p o:=h.blk (J.block _ h.lt)
theorem Bx.new (w:World)(x y:Int):Bx (w.alloc (cB x y)) w.heap.size (x,y):=by
 have q':=θ w #[.int .i64 x,.int .i64 y] 34;exact⟨by simp[q' 0],by simp[q' 1]⟩
end
def OB (v:Value):Nat->Prop:=λj=>v.ownBlock=some j
end Mg
namespace Pl
open Fr Bd Zn Dz Sb Mg
variable {w w':World}{S:Nat->Prop}{z:Nat}{hi lw mn:Int}{F fm nb:Nat->Nat}{V:Nat->Nd}{fr:Nat->List Nat}
theorem fV {b e size n g o d m:Nat}{xs:List Value}(h:w.ownsRow b e size (.slice (some ⟨g,o,none⟩) m d) n xs):Tag w g e:=by
 rcases h.2 with⟨e1,_⟩|⟨g',cap,cur,e1,_,hh,_⟩
 ·cases e1
 ·simp only[ψ,τ,av]at e1;obtain⟨⟨rfl,_⟩,_⟩:=e1;exact⟨cur,_,hh⟩
def NR (z k:Nat)(S:Nat->Prop)(w:World):Prop:=∀g c i h d,w.cell? ⟨z,4,none⟩=some (.slice (some ⟨g,0,none⟩) k c)->w.cell? ⟨g,i,none⟩=some (.slice (some ⟨h,0,none⟩) k d)->i<k->¬S h
theorem Sg {k:Nat}(h:DZ w z mn lw hi k nb fm F V fr)(D:Kp S w w')(hs:∀b,S b->∀t∈([241,242,38,327]:List TypeId),¬Tag w b t)(hn:NR z k S w)(hf:∀i,i<k->¬S (fm i)/\¬S (F i)):DZ w' z mn lw hi k nb fm F V fr:=by
 have hs:eh [241,242,38,327] w w':=λb t hm ht=>D.blk b ht.lt (λhS=>hs b hS t hm ht);have hl:=h.lt;have hz:=λj=>bN hs (by simp) h.tz j;obtain⟨g,c,e1,o1⟩:=h.cn;obtain⟨g2,c2,rows,e2,o2,r2⟩:=h.cf;refine⟨(hz 0).trans h.m0,(hz 1).trans h.m1,(hz 2).trans h.m2,⟨g,c,(hz 3).trans e1,bK o1 hs (by simp)⟩,⟨g2,c2,rows,(hz 4).trans e2,bK o2 hs (by simp),λi hi=>?_⟩,ι hl D.size,λi hi=>?_,h.ok,h.ne,h.fl,cY hs (by simp) h.tz,λi hi=>cY hs (by simp) (h.tb i hi)⟩
 ·obtain⟨h',d,e3,o3⟩:=r2 i hi;have K:=(o2.cellAt i (by omega)).trans e3;have hno:=hn g2 c2 i h' d e2 K hi;refine⟨h',d,e3,aI o3 (λb J=>?_)⟩;obtain rfl:h'=b:=by simpa[Value.ownBlock]using J
  exact D.blk h' (o3.lt _ rfl).2 hno
 ·have J:=h.bd i hi;exact J.blk D.size (hs _ 327 (by simp) (h.tb i hi)) (D.blk _ J.f.lt (hf i hi).1) (D.blk _ J.t.lt (hf i hi).2)
theorem NR.keep {S':Nat->Prop}{k:Nat}(h:NR z k S w)(hd:DZ w z mn lw hi k nb fm F V fr)(hs:eh [241,38] w w')(hS:∀j,S' j->S j\/w.heap.size<=j):NR z k S' w':=by
 intro g c i h' d e1 e2 hi hn;have hz:=bN hs (by simp) hd.tz 4;obtain⟨g2,c2,rows,e3,o2,r2⟩:=hd.cf;rw[hz,e3]at e1;simp only[τ,ψ,av,bI,aZ]at e1;obtain⟨rfl,rfl⟩:=e1;obtain⟨O,d2,e4,o3⟩:=r2 i hi;have hg:Tag w g2 38:=fV o2;have K:=(o2.cellAt i (by omega)).trans e4;rw[bN hs (by simp) hg i,K]at e2;simp only[τ,ψ,av,bI,aZ]at e2;obtain⟨rfl,rfl⟩:=e2;rcases hS _ hn with h6|h6
 ·exact h g2 c2 i O d2 e3 K hi h6
 ·have h7:O<w.heap.size:=(o3.lt _ rfl).2;omega
structure Dc where
 w0:World
 N0:Nat
 c:Nat
 z:Nat
 d:Nat
 g:Nat
 sz:Int
 m:Nat
 mn:Int
 lw:Int
 hi:Int
 k:Nat
 nb:Nat->Nat
 fm:Nat->Nat
 F:Nat->Nat
 fr:Nat->List Nat
structure Ds where
 ab5:Nat
 Q:List Sl
 V:Nat->Nd
 ws:List (Nat×Nat)
 pl:List Nat
 ct:Nat->List Bl
def DK (C:Dc)(U:Nat->Prop)(X:Nat->Option Obj)(S:Ds)(w:World):Prop:=DQ C.w0 C.N0 U X C.c C.z C.d C.g C.sz C.m C.mn C.lw C.hi C.k C.nb C.fm C.F C.fr S.ab5 S.Q S.V S.ws S.pl S.ct w
abbrev Si:List TypeId:=[241,242,38,327,248,288,300,182,175,177,286]
section
variable {C:Dc}{U U':Nat->Prop}{X X':Nat->Option Obj}{S:Ds}{T:Nat->Prop}{w w':World}
theorem DK.b (h:DK C U X S w)(J:Below w.heap.size w w'):DK C U X S w':=DQ.b h J
theorem DK.iV (h:DK C U X S w)(D:Kp T w w')(hn:NR C.z C.k T w)(jN:∀b,T b->C.w0.heap.size<=b)
  (hT:∀b,T b->U b\/(∃o,X b=some o)\/∃t,Tag w b t/\t≠34/\t∉Si)
  (hX:∀b o,X' b=some o->w'.heap[b]?=some o/\kind o=none/\((∃o',X b=some o')\/w.heap.size<=b))
  (hU:∀j,U' j->Tag w' j 34/\(U j\/w.heap.size<=j)):DK C U' X' S w':=by
 obtain⟨ly,bs,q,f,rb,G,O,h3⟩:=DQ.ex h;have rB:=G.c.ym;have hno:∀b,T b->∀t∈Si,¬Tag w b t:=λb J t ht hg=>by
  rcases hT b J with e|⟨o,e⟩|⟨t',g',n1,n2⟩
  ·exact(DQ.uk h b e).ne hg (λe=>by subst e;simp at ht) rfl
  ·exact aj (rB.lx b o e).1 (rB.lx b o e).2.1 hg rfl
  ·exact g'.ne hg (λe=>n2 (e▸ht)) rfl
 have hmap:∀b o,w.heap[b]?=some o->kind o=none->(∀o',X b=some o'->False)->¬T b:=λb o e1 e2 hx J=>by
  rcases hT b J with e|⟨o',e⟩|⟨t',g',_,_⟩
  ·exact aj e1 e2 (DQ.uk h b e) rfl
  ·exact hx o' e
  ·exact aj e1 e2 g' rfl
 have hX0:∀o,X ly.1=some o->False:=λo e=>(rB.lx ly.1 o e).2.2 rfl;have Nq:¬T ly.1:=hmap ly.1 _ rB.lm rB.lk hX0;have VO:∀i,i<C.k->¬T (C.fm i)/\¬T (C.F i):=λi hi=>by
  have J:=G.d.bd i hi;obtain⟨⟨es,clock,e1,_⟩,_,_⟩:=J.f;obtain⟨⟨es2,aaM,e2,_⟩,_,_⟩:=J.t;exact⟨hmap _ _ e1 rfl (λo e=>(G.ml i hi _ (δ ⟨o,e⟩)).1 rfl),hmap _ _ e2 rfl (λo e=>(G.ml i hi _ (δ ⟨o,e⟩)).2 rfl)⟩
 have ug:∀(ts:List TypeId),(∀t∈ts,t∈Si)->eh ts w w':=λts hts b t hm ht=>D.blk b ht.lt (λJ=>hno b J t (hts t hm) ht);have hsz:=D.size;have D':=Sg G.d D (λb J t ht=>hno b J t ((show ∀t∈([241,242,38,327]:List TypeId),t∈Si by decide) t ht)) hn VO;have mN:∀j,Lk (ly.1,ly.2,X') j->j=ly.1\/(∃o,X j=some o)\/w.heap.size<=j:=λj E=>by
  rcases E with e|⟨o,e⟩
  ·exact ε e
  ·exact δ (hX j o e).2.2
 obtain⟨p,dd,e2,o2⟩:=G.c.c2;have hs3:eh [248,288,300] w w':=ug _ (by decide);have K:=λj=>bN hs3 (by simp) G.c.tg j;have C':DC C.N0 w' C.c C.z (ly.1,ly.2,X') C.sz C.m bs S.Q:=⟨(K 0).trans G.c.c0,(K 1).trans G.c.c1,⟨p,dd,(K 2).trans e2,bK o2 hs3 (by simp)⟩,cY hs3 (by simp) G.c.tg,G.c.ge,G.c.bg,G.c.len,G.c.V,λi b s h5 h6=>(G.c.sl i b s h5 h6).same (hs3 b 300 (by simp) (G.c.sl i b s h5 h6).tg),G.c.ok,G.c.so,λo=>(π (w:=w) (a:=⟨C.c,o,none⟩) (hs3 C.c 248 (by simp) G.c.tg)).trans (G.c.cf o),G.c.mm,⟨(K 3).trans rB.c3,(D.blk _ rB.lt Nq).trans rB.lm,rB.lk,rB.lg,λj o e=>⟨(hX j o e).1,(hX j o e).2.1,λej=>by
  rcases(hX j o e).2.2 with⟨o',h5⟩|h5
  ·exact(rB.lx j o' h5).2.2 ej
  ·have h6:ly.1<w.heap.size:=rB.lt;have h7:j=ly.1:=ej;omega⟩⟩⟩
 have P':PS C.N0 w' C.c C.z (ly.1,ly.2,X') C.sz C.m bs S.Q C.mn C.lw C.hi C.k C.nb C.fm C.F S.V C.fr:=⟨D',C',G.ow,G.mf,G.k4,λi hi j E=>by
  rcases mN j E with e|⟨o,e⟩|e
  ·exact G.ml i hi j (ε e)
  ·exact G.ml i hi j (δ ⟨o,e⟩)
  ·have J:=G.d.bd i hi;have h5:=J.f.lt;have h6:=J.t.lt;omega⟩
 have hrow:∀t∈ez S.ws S.pl,¬T t/\¬T (rb t):=λt ht=>by
  have Wm:=O.tr t ht;refine⟨λJ=>hno t J 286 (by simp) Wm.tg,λJ=>?_⟩;rcases Wm.row with e|e
  ·rw[e]at J;exact hno t J 286 (by simp) Wm.tg
  ·rcases hT _ J with e5|⟨o,e5⟩|⟨t',g',n1,n2⟩
   ·exact O.ru t ht e5
   ·exact aj (rB.lx _ o e5).1 (rB.lx _ o e5).2.1 e.1 rfl
   ·exact g'.ne e.1 n1 rfl
 have T':TS C.N0 U' w' C.c ly.1 q f (ez S.ws S.pl) rb S.ct:=(O.same (λt ht=>D.blk _ (O.tr t ht).tg.lt (hrow t ht).1) (D.blk _ O.ml.lt Nq) (λt ht=>D.blk _ (O.tr t ht).xG (hrow t ht).2)).others (λt ht hv=>by
  rcases(hU _ hv).2 with e|e
  ·exact e
  ·have:=(O.tr t ht).xG;omega)
 refine⟨⟨D.os.trans (DQ.b0 h).os,D.tape.trans (DQ.b0 h).tape,D.output.trans (DQ.b0 h).output,σ (DQ.b0 h).size D.size,λj E=>(D.blk j (ι E (DQ.b0 h).size) (λJ=>by have:=jN j J;omega)).trans ((DQ.b0 h).block j E)⟩,⟨ly,bs,q,f,rb,P',T',h3⟩,(DQ.db h).same (ug _ (by decide)),DQ.pf h,DQ.tk h,λj E=>(hU j E).1,λj E=>?_,DQ.pq h⟩;rcases(hU j E).2 with e|e
 ·exact DQ.ul h j e
 ·exact σ (DQ.b0 h).size e
theorem DK.map (h:DK C U X S w){j:Nat}{o:Obj}(e:X j=some o):w.heap[j]?=some o/\kind o=none:=by
 obtain⟨ly,bs,q,f,rb,G,O,h3⟩:=DQ.ex h;exact⟨(G.c.ym.lx j o e).1,(G.c.ym.lx j o e).2.1⟩
theorem DK.dz (h:DK C U X S w):DZ w C.z C.mn C.lw C.hi C.k C.nb C.fm C.F S.V C.fr:=by
 obtain⟨ly,bs,q,f,rb,G,O,h3⟩:=DQ.ex h;exact G.d
end
structure Ps where
 most:Nat
 R:List Bl
 T:List Bl
 ab6:List (Nat×Bl)
 L:List Nat
 tk:Nat
 q:Nat
 vr:Value
 vl:Value
structure jo (B:Nat)(w:World)(Y d F ym:Nat)(P:Ps):Prop where
 c0:w.cell? ⟨Y,0,none⟩=some (.pointer (some ⟨d,0,none⟩))
 c1:w.cell? ⟨Y,1,none⟩=some (.int .i64 P.most)
 c2:w.cell? ⟨Y,2,none⟩=some P.vr
 c3:w.cell? ⟨Y,3,none⟩=some (.map (some F))
 c4:w.cell? ⟨Y,4,none⟩=some (.map (some ym))
 c5:w.cell? ⟨Y,5,none⟩=some P.vl
 c6:w.cell? ⟨Y,6,none⟩=some (.int .i64 P.tk)
 tg:Tag w Y 144
 fz:∀o,w.frozen? ⟨Y,o,none⟩=false
 r:w.ownsRow B 34 2 P.vr P.R.length (flat P.R)
 l:w.ownsRow B 3 1 P.vl P.L.length (dX P.L)
 t:Mo w F P.q P.T
 y:My w ym P.q P.ab6
 ne:F≠ym
 ge:B<=Y
 gt:B<=F/\B<=ym
def PB (Y F ym:Nat)(P:Ps)(b:Nat):Prop:=b=Y\/b=F\/b=ym\/OB P.vr b\/OB P.vl b
theorem ay {w:World}{B e size n:Nat}{v:Value}{xs:List Value}(h:w.ownsRow B e size v n xs){b:Nat}(J:OB v b):Tag w b e/\B<=b:=by
 rcases h.2 with⟨e1,_⟩|⟨g',cap,cur,e1,hg,hh,_⟩
 ·rw[e1]at J;cases J
 ·rw[e1]at J;obtain rfl:g'=b:=by simpa[OB,Value.ownBlock]using J
  exact⟨⟨cur,_,hh⟩,hg⟩
section
variable {B:Nat}{w w':World}{Y d F ym:Nat}{P:Ps}
theorem jo.keep (h:jo B w Y d F ym P)(J:∀b,PB Y F ym P b->w'.heap[b]?=w.heap[b]?):jo B w' Y d F ym P:=by
 have hp:=J Y (ε rfl);have K:=λj=>η (w:=w) (a:=⟨Y,j,none⟩) hp;exact⟨(K 0).trans h.c0,(K 1).trans h.c1,(K 2).trans h.c2,(K 3).trans h.c3,(K 4).trans h.c4,(K 5).trans h.c5,(K 6).trans h.c6,h.tg.blk hp,λo=>(π (w:=w) (a:=⟨Y,o,none⟩) hp).trans (h.fz o),aI h.r (λg hg=>J g (δ (δ (δ (ε hg))))),aI h.l (λg hg=>J g (δ (δ (δ (δ hg))))),h.t.blk (J F (δ (ε rfl))),h.y.blk (J ym (δ (δ (ε rfl)))),h.ne,h.ge,h.gt⟩
theorem jo.lt (h:jo B w Y d F ym P){b:Nat}(J:PB Y F ym P b):b<w.heap.size/\B<=b:=by
 rcases J with rfl|rfl|rfl|e|e
 ·exact⟨h.tg.lt,h.ge⟩
 ·exact⟨h.t.lt,h.gt.1⟩
 ·exact⟨h.y.lt,h.gt.2⟩
 ·exact⟨(ay h.r e).1.lt,(ay h.r e).2⟩
 ·exact⟨(ay h.l e).1.lt,(ay h.l e).2⟩
theorem jo.b (h:jo B w Y d F ym P)(J:Below w.heap.size w w'):jo B w' Y d F ym P:=h.keep λb hp=>J.block b (h.lt hp).1
theorem jo.Uf (h:jo B w Y d F ym P):F≠Y/\ym≠Y:=by
 obtain⟨o,e1,e2⟩:=h.t.aQ;obtain⟨o',e3,e4⟩:=h.y.aQ;exact⟨aj e1 e2 h.tg,aj e3 e4 h.tg⟩
theorem fp {e size n j:Nat}{u v:Value}{xs:List Value}(ho:w.ownsRow B e size u n xs)(ht:Tag w Y 144)(hne:e≠144):(w.setCell ⟨Y,j,none⟩ v).ownsRow B e size u n xs:=aI ho (λ_ hg=>μ _ _ _ _ ((ay ho hg).1.ne ht hne))
theorem jo.AZ (h:jo B w Y d F ym P)(J:∀b,b=Y\/b=F\/b=ym\/OB P.vr b->w'.heap[b]?=w.heap[b]?){v':Value}{L':List Nat}(ho:w'.ownsRow B 3 1 v' L'.length (dX L')):jo B (w'.setCell ⟨Y,5,none⟩ v') Y d F ym {P with L:=L',vl:=v'}:=by
 have hp:=J Y (ε rfl);have K:=λj=>η (w:=w) (a:=⟨Y,j,none⟩) hp;have nt:=h.tg.blk hp;have hs:∀b,b≠Y->(w'.setCell ⟨Y,5,none⟩ v').heap[b]?=w'.heap[b]?:=λb hn=>μ _ _ _ _ hn;have hr:w'.ownsRow B 34 2 P.vr P.R.length (flat P.R):=aI h.r (λg hg=>J g (δ (δ (δ hg))));exact⟨(bu (by simp)).trans ((K 0).trans h.c0),(bu (by simp)).trans ((K 1).trans h.c1),(bu (by simp)).trans ((K 2).trans h.c2),(bu (by simp)).trans ((K 3).trans h.c3),(bu (by simp)).trans ((K 4).trans h.c4),fK ((K 5).trans h.c5),(bu (by simp)).trans ((K 6).trans h.c6),nt.set _ _,λo=>by rw[Ψ];exact(π (w:=w) (a:=⟨Y,o,none⟩) hp).trans (h.fz o),fp hr nt (by decide),fp ho nt (by decide),h.t.blk ((hs F h.Uf.1).trans (J F (δ (ε rfl)))),h.y.blk ((hs ym h.Uf.2).trans (J ym (δ (δ (ε rfl))))),h.ne,h.ge,h.gt⟩
theorem jo.Fi (h:jo B w Y d F ym P)(J:∀b,b=Y\/b=F\/b=ym\/OB P.vl b->w'.heap[b]?=w.heap[b]?){v':Value}{R':List Bl}(ho:w'.ownsRow B 34 2 v' R'.length (flat R')):jo B (w'.setCell ⟨Y,2,none⟩ v') Y d F ym {P with R:=R',vr:=v'}:=by
 have hp:=J Y (ε rfl);have K:=λj=>η (w:=w) (a:=⟨Y,j,none⟩) hp;have nt:=h.tg.blk hp;have hs:∀b,b≠Y->(w'.setCell ⟨Y,2,none⟩ v').heap[b]?=w'.heap[b]?:=λb hn=>μ _ _ _ _ hn;have hr:w'.ownsRow B 3 1 P.vl P.L.length (dX P.L):=aI h.l (λg hg=>J g (δ (δ (δ hg))));exact⟨(bu (by simp)).trans ((K 0).trans h.c0),(bu (by simp)).trans ((K 1).trans h.c1),fK ((K 2).trans h.c2),(bu (by simp)).trans ((K 3).trans h.c3),(bu (by simp)).trans ((K 4).trans h.c4),(bu (by simp)).trans ((K 5).trans h.c5),(bu (by simp)).trans ((K 6).trans h.c6),nt.set _ _,λo=>by rw[Ψ];exact(π (w:=w) (a:=⟨Y,o,none⟩) hp).trans (h.fz o),fp ho nt (by decide),fp hr nt (by decide),h.t.blk ((hs F h.Uf.1).trans (J F (δ (ε rfl)))),h.y.blk ((hs ym h.Uf.2).trans (J ym (δ (δ (ε rfl))))),h.ne,h.ge,h.gt⟩
theorem jo.Sj (h:jo B w Y d F ym P)(n:Nat):jo B (w.setCell ⟨Y,6,none⟩ (.int .i64 n)) Y d F ym {P with tk:=n}:=by
 have hs:∀b,b≠Y->(w.setCell ⟨Y,6,none⟩ (.int .i64 n)).heap[b]?=w.heap[b]?:=λb hn=>μ _ _ _ _ hn;exact⟨(bu (by simp)).trans h.c0,(bu (by simp)).trans h.c1,(bu (by simp)).trans h.c2,(bu (by simp)).trans h.c3,(bu (by simp)).trans h.c4,(bu (by simp)).trans h.c5,fK h.c6,h.tg.set _ _,λo=>by rw[Ψ];exact h.fz o,fp h.r h.tg (by decide),fp h.l h.tg (by decide),h.t.blk (hs F h.Uf.1),h.y.blk (hs ym h.Uf.2),h.ne,h.ge,h.gt⟩
theorem jo.box (h:jo B w Y d F ym P){r:Nat}(hr:Tag w r 34)(hn:¬OB P.vr r)(o:Nat)(v:Value):jo B (w.setCell ⟨r,o,none⟩ v) Y d F ym P:=h.keep λb hp=>μ _ _ _ _ (by
 rcases hp with rfl|rfl|rfl|e|e
 ·exact h.tg.ne hr (by decide)
 ·obtain⟨o,e1,e2⟩:=h.t.aQ;exact aj e1 e2 hr
 ·obtain⟨o,e1,e2⟩:=h.y.aQ;exact aj e1 e2 hr
 ·rintro rfl;exact hn e
 ·exact(ay h.l e).1.ne hr (by decide))
theorem jo.sI (h:jo B w Y d F ym P){r:Nat}(hr:Tag w r 34)(hn:¬OB P.vr r)(u v:Value):jo B ((w.setCell ⟨r,0,none⟩ u).setCell ⟨r,1,none⟩ v) Y d F ym P:=(h.box hr hn 0 u).box (hr.set _ _) hn 1 v
theorem Kp.sI {S:Nat->Prop}{W:World}(h:Kp S w W){r:Nat}(hr:w.heap.size<=r)(u v:Value):Kp S w ((W.setCell ⟨r,0,none⟩ u).setCell ⟨r,1,none⟩ v):=⟨h.os,h.tape,h.output,σ h.size (by simp[World.setCell]),λk D hn=>(μ _ _ _ _ (by simp only;omega)).trans ((μ _ _ _ _ (by simp only;omega)).trans (h.blk k D hn))⟩
end
theorem vM (l:List Nat):(dX l).length=l.length:=by simp[dX]
theorem yi (l:List Nat)(x:Nat):dX (l++[x])=dX l++[.int .i64 x]:=by simp[dX]
theorem vN {w:World}{B e size g n k c:Nat}{xs ys:List Value}(h:w.ownsRow B e size (.slice (some ⟨g,0,none⟩) n c) n xs)(D:k<=n)(hy:xs.take (k*size)=ys):w.ownsRow B e size (.slice (some ⟨g,0,none⟩) k c) k ys:=by
 have hl:=h.1;have hks:k*size<=n*size:=gA _ D;refine⟨by rw[<- hy,cI,hl];omega,?_⟩;rcases h.2 with⟨e1,_⟩|⟨g',cap,cur,e1,hg,hh,G,O,h3,h4⟩
 ·cases e1
 ·simp only[ψ,τ,av,bI,aZ]at e1;obtain⟨rfl,rfl⟩:=e1;refine δ ⟨g,c,cur,rfl,hg,hh,by omega,O,h3,?_⟩;rw[<- hy,<- h4,List.take_take,Nat.min_eq_left hks]
theorem om {w:World}{B e size g n c:Nat}{xs:List Value}(h:w.ownsRow B e size (.slice (some ⟨g,0,none⟩) n c) n xs):n<=c/\c<=maxLen:=by
 rcases h.2 with⟨e1,_⟩|⟨g',cap,cur,e1,hg,hh,G,O,h3,h4⟩
 ·cases e1
 ·simp only[ψ,τ,av,bI,aZ]at e1;obtain⟨rfl,rfl⟩:=e1;exact⟨G,O⟩
section
variable {B:Nat}{w w':World}{Y d F ym:Nat}{P:Ps}
theorem iG (h:jo B w Y d F ym P){b c:Nat}(hv:P.vl=.slice (some ⟨b,0,none⟩) P.L.length c):(∀j,j<(P.L.map Int.ofNat).length->w.cell? ⟨b,0+j,none⟩=some (.int .i64 ((P.L.map Int.ofNat).getD j 0)))/\P.L.length<=c/\c<=maxLen/\(∀j,j<P.L.length->w.frozen? ⟨b,0+j,none⟩=false):=by
 have hl:=h.l;rw[hv]at hl;refine⟨λj E=>?_,?_⟩
 ·rw[eT]at E;rw[bj,hl.cellAt j (by omega)];simp[dX,E]
 ·rcases hl.2 with⟨e1,_⟩|⟨g',cap,cur,e1,hg,hh,G,O,h3,h4⟩
  ·cases e1
  ·simp only[ψ,τ,av,bI,aZ]at e1;obtain⟨rfl,rfl⟩:=e1;exact⟨G,O,λj _=>hl.frozenAt _⟩
theorem Sk (L:List Nat):((L.map Int.ofNat).take L.length).map (Value.int .i64)=dX L:=by
 rw[bG (by simp),List.map_map];rfl
theorem rP (h:jo B w Y d F ym P)(hn8:P.L.length<=1000):Calls prog 17 #[.pointer (some ⟨Y,0,none⟩)] w λev w'=>∃v',ev=.returned v'/\w'.ownsRow w.heap.size 3 1 v' P.L.length (dX P.L)/\Below w.heap.size w w':=by
 have c5:=h.c5;have HC:Hid (Calls prog 79 #[P.vl] w λev w'=>∃v',ev=.returned v'/\w'.ownsRow w.heap.size 3 1 v' P.L.length (dX P.L)/\Below w.heap.size w w'):=by
  rcases id h.l.2 with⟨e1,e2⟩|⟨g,cap,cur,e1,hg,hh,G,O,h3,h4⟩
  ·rw[e1];refine(Sh.slices_Clone_int_nil 0 0 w).mono ?_;rintro ev w'⟨rfl,rfl⟩;have:P.L=[]:=bf.1 e2;rw[this];exact⟨_,rfl,Ξ _ _ _ _,γ _ _⟩
  ·obtain⟨f1,f2,f3,f4⟩:=iG h e1;rw[e1];refine(Sh.slices_Clone_int g 0 P.L.length cap (P.L.map Int.ofNat) w (by simp) ?_ f1).mono ?_
   ·omega
   ·rintro ev w'⟨v',rfl,o1,_,b1⟩;rw[Sk]at o1;exact⟨v',rfl,o1,b1⟩
 generalize P.vl=vl at*;clear h;go_enter func17,ntmps17;go_wp2_with fail;refine(Z HC).mono ?_;rintro ev w1⟨v',rfl,o1,b1⟩;go_wp2;go_ret;exact⟨v',rfl,o1,b1⟩
theorem Df (h:jo B w Y d F ym P)(hB:B<=w.heap.size)(e7:Addr)(he:w.cell? ⟨7,0,none⟩=some (bc e7))(jN:7<B)(hl:P.L.length<8)(kV:P.tk<1000000000000):
  Calls prog 74 #[.pointer (some ⟨Y,0,none⟩)] w λev w'=>ev=.returned (bc e7)/\∃ic,jo B w' Y d F ym {P with L:=P.L++[P.tk+1],tk:=P.tk+1,vl:=ic}/\Kp (λb=>b=Y\/OB P.vl b) w w'/\∀j,OB ic j->OB P.vl j\/w.heap.size<=j:=by
 obtain⟨i0,eO,hz0,hz1,hz2⟩:=aY info3;have HI:=I eO;have HZ:=I hz0;have eI:=I hz1;have eJ:=I hz2;obtain⟨p,c,hv⟩:=aX h.l;have c5:=h.c5;have c6:=h.c6;have f6:=h.fz 6;have f5:=h.fz 5;have hl5:=h.l;rw[hv]at c5;have d1:decide ((P.L.length:Int)>=8)=false:=by simp;omega
 have d2:decide ((8:Int)<=(P.L.length:Int))=false:=by simp;omega
 have rf:IntKind.i64.wrap ((P.tk:Int)+1)=((P.tk:Int)+1):=aB _ (by omega);have wN:=h.ge;have hlt:=h.tg.lt;have S1:=h.Sj (P.tk+1);rw[show((P.tk+1:Nat):Int)=(P.tk:Int)+1 from by omega]at S1;have K1:=I (Kp.set (S:=λb=>b=Y\/OB P.vl b) w Y 6 (.int .i64 ((P.tk:Int)+1)) (ε rfl));have he1:(w.setCell ⟨Y,6,none⟩ (.int .i64 ((P.tk:Int)+1))).cell? ⟨7,0,none⟩=some (bc e7):=(bu (by simp<;>omega)).trans he;have Pn:=I S1;have x5:=S1.c5;have x6:=S1.c6;have xf:=S1.fz 5;have hsz:w.heap.size<=(w.setCell ⟨Y,6,none⟩ (.int .i64 ((P.tk:Int)+1))).heap.size:=by simp[World.setCell]
 have aaO:(w.setCell ⟨Y,6,none⟩ (.int .i64 ((P.tk:Int)+1))).heap.size<=w.heap.size:=by simp[World.setCell]
 have Nt:=I S1.tg;have xl:=S1.l;have HV:=I hv;simp only at x5 x6 xl;rw[hv]at x5 xl;clear h eO hz0 hz1 hz2 S1 hl5 kV hv;unfold bc at*;generalize hn:P.L.length=n at*;go_enter func74,ntmps74;go_upto_region 4 with(fail);generalize w.setCell ⟨Y,6,none⟩ (.int .i64 ((P.tk:Int)+1))=W1 at*;have BA:Below W1.heap.size W1 (W1.alloc (.cells #[.int .i64 ((P.tk:Int)+1)] 3)).drew:=(χ (γ _ _) _).drew;have iE:=aN xl BA;have hNb:B<=(W1.alloc (.cells #[.int .i64 ((P.tk:Int)+1)] 3)).drew.heap.size:=σ (by omega) BA.size;have ir:=(Z Nt).b BA;have Ed:=(Z Nt).lt;have j9:=(BA.cell (p:=⟨Y,5,none⟩) Ed).trans x5;have j_:=(BA.frozen (p:=⟨Y,5,none⟩) Ed).trans xf;go_region_law (refine bX _ rfl (.tmp 21) (.tmp 26) 38 rfl B 3 i0 (.int .i64 0) 1 8 underlying38 (Z HI) (Z HZ) (Z eI) (Z eJ) rfl (by decide) (.slice p n c) n (dX P.L) (by simp[Act.eval]) iE ⟨W1.heap.size,0,none⟩ 1 1 [.int .i64 ((P.tk:Int)+1)] (by simp[Act.eval]) rfl (by intro j u E;match j,E with|0,E=>(simp at E;subst E;simp[Addr.add])) (by intro u hu;simp at hu;subst hu;rfl) (by omega) (by unfold maxLen;omega) (by omega) hNb _ rfl ?_;intro g4 c4 w4 o4 q4 hg4 kE;have e4:=q4.block Y ir.lt (d_ iE ir (by decide));have sQ:w4.cell? ⟨Y,5,none⟩=some (.slice p n c):=(η (a:=⟨Y,5,none⟩) e4).trans j9;have ue:w4.frozen? ⟨Y,5,none⟩=false:=(π (a:=⟨Y,5,none⟩) e4).trans j_);all_goals
  have WE:=(Kp.below (S:=λb=>b=Y\/OB P.vl b) BA);have hK2:Kp (λb=>b=Y\/OB P.vl b) (W1.alloc (.cells #[.int .i64 ((P.tk:Int)+1)] 3)).drew w4:=⟨q4.os,q4.tape,q4.output,q4.size,λk D hn=>q4.block k D (λe=>hn (δ (by rw[Z HV];exact e.symm)))⟩;have hS:=Z Pn;have hne:∀b,b=Y\/b=F\/b=ym\/OB P.vr b->w4.heap[b]?=W1.heap[b]?:=λb J=>by
   have WG:PB Y F ym {P with tk:=P.tk+1} b:=by
    rcases J with h|h|h|h
    ·exact ε h
    ·exact δ (ε h)
    ·exact δ (δ (ε h))
    ·exact δ (δ (δ (ε h)))
   have hbl:=(hS.lt WG).1;refine(q4.block b (ι hbl BA.size) (λe=>?_)).trans (BA.block b hbl);have ho:=ay xl (b:=b) e.symm;rcases J with h|h|h|h
   ·exact(ho.1.ne (Z Nt) (by decide)) h
   ·obtain⟨o,e1,e2⟩:=hS.t.aQ;exact aj e1 e2 (h▸ho.1) rfl
   ·obtain⟨o,e1,e2⟩:=hS.y.aQ;exact aj e1 e2 (h▸ho.1) rfl
   ·exact(ho.1.ne (ay hS.r h).1 (by decide)) rfl
  have ui:w4.ownsRow B 3 1 (.slice (some ⟨g4,0,none⟩) (n+1) c4) (P.L++[P.tk+1]).length (dX (P.L++[P.tk+1])):=by
   rw[φ,hn,yi,show((P.tk+1:Nat):Int)=(P.tk:Int)+1 from by omega];exact o4
  have hF:=I (hS.AZ hne ui);have hKK:=I ((((Z K1).trans WE).trans hK2).trans (Kp.set (S:=λb=>b=Y\/OB P.vl b) w4 Y 5 (.slice (some ⟨g4,0,none⟩) (n+1) c4) (ε rfl)));have hG:Hid (∀j,OB (.slice (some ⟨g4,0,none⟩) (n+1) c4) j->OB P.vl j\/w.heap.size<=j):=λj E=>by
   obtain rfl:g4=j:=by simpa[OB,Value.ownBlock]using E
   rcases hg4 with h|h
   ·exact ε (by rw[Z HV];exact h)
   ·right;have G:=BA.size;have O:=(Z K1).size;omega
  have he4:(w4.setCell ⟨Y,5,none⟩ (.slice (some ⟨g4,0,none⟩) (n+1) c4)).cell? ⟨7,0,none⟩=some (.iface 424 (.pointer (some e7))):=(bu (by simp<;>omega)).trans ((η (w:=W1) (a:=⟨7,0,none⟩) ((q4.block 7 (by have:=BA.size;omega) (λe=>by have:=(ay xl (b:=7) e.symm).2;omega)).trans (BA.block 7 (by omega)))).trans he1);clear WE hK2 hne ui hS o4 q4 hg4 kE e4 sQ ue j9 j_ iE BA ir hNb he1 Pn Nt K1 x5 x6 xf xl HI HZ eI eJ HV;generalize w4.setCell ⟨Y,5,none⟩ (.slice (some ⟨g4,0,none⟩) (n+1) c4)=w5 at*;go_wp2;go_ret;exact⟨rfl,_,Z hF,Z hKK,Z hG⟩
end
inductive mV (C:Dc)(S:Ds)(x y:Int)(u:Bool):Option Nat->Bl->Ds->Prop
 |bad (hx:x<0\/(S.ws.length:Int)<=x):mV C S x y u (some 1) (0,0) S
 |lift (i a b a' b':Nat) (dC:List Nat) (xs:List Bl) (o:Bl) (hx:x=i) (dR:S.ws[i]?=some (a,b)) (hl:kT S.ct a b S.pl a' b' dC) (K:S.ct a'=xs++[o]):mV C S x y u none o {S with ws:=S.ws.set i (a',b'),pl:=dC,ct:=kQ S.ct a' xs}
 |no (i a b a' b':Nat) (dC:List Nat) (n:Nat) (hx:x=i) (dR:S.ws[i]?=some (a,b)) (hl:kT S.ct a b S.pl a' b' dC) (K:S.ct a'=[]) (hn:n<10)
  (hr:(n=1/\¬(0<=y/\y<C.k))\/∃x':Nat,y=x'/\x'<C.k/\(dK C.m x' S.Q S.Q.length).1=none/\(C.fr x').find? (λi=>fA 0 C.mn u (S.V i)==2)=none/\n=if(C.fr x').any (λi=>fA 0 C.mn u (S.V i)==1)then 6 else 4):mV C S x y u (some n) (0,0) {S with ws:=S.ws.set i (a',b'),pl:=dC}
 |old (i a b a' b':Nat) (dC:List Nat) (x' j:Nat) (s:Sl) (hx:x=i) (dR:S.ws[i]?=some (a,b)) (hl:kT S.ct a b S.pl a' b' dC) (K:S.ct a'=[]) (hy:y=x') (D:x'<C.k) (J:(dK C.m x' S.Q S.Q.length).1=some j) (hs:S.Q[j]?=some s):mV C S x y u none ((s.V:Int),s.at_*64+ff s.bm*C.sz) {S with ws:=S.ws.set i (a',b'),pl:=dC,Q:=S.Q.set j {s with bm:=s.bm||| 2^ff s.bm}}
 |new (i a b a' b':Nat) (dC:List Nat) (x' n q:Nat) (hx:x=i) (dR:S.ws[i]?=some (a,b)) (hl:kT S.ct a b S.pl a' b' dC) (K:S.ct a'=[]) (hy:y=x') (D:x'<C.k) (J:(dK C.m x' S.Q S.Q.length).1=none) (hf:(C.fr x').find? (λi=>fA 0 C.mn u (S.V i)==2)=some n) (VN:n<C.k) (hq:Pos S.Q n (mO 0 (S.V n)) q):mV C S x y u none ((n:Int),mO 0 (S.V n)*64) {S with ws:=S.ws.set i (a',b'),pl:=dC,Q:=Sb.ins S.Q q ⟨n,mO 0 (S.V n),1⟩,V:=up S.V n (kC 0 (S.V n))}
def wO (e:Nat->Addr):Option Nat->Value
 |none=>.nilIface
 |some n=>bc (e n)
section
variable {C:Dc}{U:Nat->Prop}{X:Nat->Option Obj}{S S':Ds}{w w':World}{x y:Int}{u:Bool}{e:Nat->Addr}{ev:Ending}{r:Option Nat}{o:Bl}
theorem Jh (hT:Na C.w0 C.N0 U X C.c C.z C.d C.g C.sz C.m C.mn C.lw C.hi C.k C.nb C.fm C.F C.fr S.ab5 S.Q S.V S.ws S.pl S.ct x y u e w ev w'):∃r o S',ev=.returned (.tuple #[bz o.1 o.2,wO e r])/\mV C S x y u r o S'/\DK C U X S' w'/\UK U w w':=by
 cases hT with
 |bad _ hx hd hu=>exact⟨some 1,(0,0),S,rfl,.bad hx,hd,hu⟩
 |lift i a b a' b' dC xs o _ hx dR hl K hd hu=>exact⟨none,o,_,rfl,.lift i a b a' b' dC xs o hx dR hl K,hd,hu⟩
 |cache i a b a' b' dC _ _ hx dR hl K hT =>
  cases hT with
  |no n _ hn hd hu hr=>exact⟨some n,(0,0),_,rfl,.no i a b a' b' dC n hx dR hl K hn hr,hd,hu⟩
  |old x' j s _ G O h3 h4 hd hu=>exact⟨none,_,_,rfl,.old i a b a' b' dC x' j s hx dR hl K G O h3 h4,hd,hu⟩
  |new x' n q a2 _ G O h3 h4 h5 h6 h7 hd hu =>
   subst h6;exact⟨none,_,_,rfl,.new i a b a' b' dC x' n q hx dR hl K G O h3 h4 h5 h7,hd,hu⟩
theorem DK.take (h:DK C U X S w)(hN:C.w0.heap.size<=C.N0)(he:gj C.w0 e)(x y:Int)(u:Bool):
  Calls prog 30 #[.pointer (some ⟨C.d,0,none⟩),.int .i64 x,.int .i64 y,.bool u] w λev w'=>∃r o S',ev=.returned (.tuple #[bz o.1 o.2,wO e r])/\mV C S x y u r o S'/\DK C U X S' w'/\UK U w w' :=
 (DQ.Wl h hN e he x y u).mono λ_ _ hT=>Jh hT
inductive yj (C:Dc)(S:Ds)(x:Int)(o:Bl):Option Nat->Ds->Prop
 |bad (hx:x<0\/(S.ws.length:Int)<=x):yj C S x o (some 1) S
 |lV (i:Nat) (hx:x=i) (ja:i<S.ws.length) (hn:¬(iM C.m C.sz S.Q o.1 o.2/\∀u∈ez S.ws S.pl,o∉S.ct u)):yj C S x o (some 8) S
 |yes (i a b:Nat) (kX:List (Nat×Nat)) (dC:List Nat) (qa:Nat->List Bl) (hx:x=i) (dR:S.ws[i]?=some (a,b)) (ht:iM C.m C.sz S.Q o.1 o.2) (hn:∀u∈ez S.ws S.pl,o∉S.ct u) (hg:x_ S.ct a b i o S.ws S.pl kX dC qa):yj C S x o none {S with ab5:=S.ab5+1,ws:=kX,pl:=dC,ct:=qa}
theorem DK.give (h:DK C U X S w)(hN:C.w0.heap.size<=C.N0)(hQ:S.ab5<=900000)(he:gj C.w0 e)(x:Int)(o:Bl):
  Calls prog 148 #[.pointer (some ⟨C.d,0,none⟩),.int .i64 x,.agg #[.int .i64 o.1,.int .i64 o.2]] w λev w'=>∃r S',ev=.returned (wO e r)/\yj C S x o r S'/\DK C U X S' w'/\UK U w w':=by
 refine(DQ.Wy h hN hQ e he x o.1 o.2).mono ?_;intro ev w' hG;cases hG with
 |bad _ hx hd hu=>exact⟨some 1,S,rfl,.bad hx,hd,hu⟩
 |lV i _ hx ja hn hd hu=>exact⟨some 8,S,rfl,.lV i hx ja hn,hd,hu⟩
 |yes i a b kX dC qa _ hx dR ht hn hg hd hu=>exact⟨none,_,rfl,.yes i a b kX dC qa hx dR ht hn hg,hd,hu⟩
theorem mV.wl (h:mV C S x y u r o S'):S'.ws.length=S.ws.length:=by
 cases h<;>simp
structure FS (pg:Nat)(C:Dc)(S:Ds)(l:List Bl):Prop where
 k1:C.k=1
 f0:C.fr 0=[0]
 mm:1<=C.m/\C.m<=64
 pl:S.pl=[]
 ct:∀t,S.ct t=[]
 fi:Np pg C.m (S.V 0) S.Q l.length
 V:l.Nodup
 tk:∀o∈l,iM C.m C.sz S.Q o.1 o.2
theorem A3 {ct:Nat->List Bl}{a b a' b':Nat}{pl dC:List Nat}(h:kT ct a b pl a' b' dC)(hp:pl=[]):dC=[]:=by
 cases h with
 |keep _ _=>exact hp
 |swap _ _ _=>exact hp
 |none _ _=>rfl
 |iF p t _ _=>simp at hp
theorem Ji {o mn:Int}{u:Bool}{d:Nd}(_hok:d.ok)(hu:u=true\/mn<=0)(h:fA o mn u d≠2):fit o d.aca=none:=by
 cases hf:fit o d.aca with
 |none=>rfl
 |some x =>
  exfalso;have hp:0<=fS (gV o x d.aca):=mD.1;have:¬(u=false/\fS (gV o x d.aca)<mn):=by
   rintro⟨G,O⟩;rcases hu with e|e
   ·rw[e]at G;cases G
   ·omega
  simp[fA,hf,this]at h
theorem Nu {o mn:Int}{u:Bool}{d:Nd}(_hok:d.ok)(hu:u=true\/mn<=0):(fA o mn u d==1)=false:=by
 cases hf:fit o d.aca with
 |none=>simp[fA,hf]
 |some x =>
  have hp:0<=fS (gV o x d.aca):=mD.1;have:¬(u=false/\fS (gV o x d.aca)<mn):=by
   rintro⟨G,O⟩;rcases hu with e|e
   ·rw[e]at G;cases G
   ·omega
  simp[fA,hf,this]
theorem FS.take {pg:Nat}{l:List Bl}(h:FS pg C S l)(hD:DK C U X S w)(hu:u=true\/C.mn<=0)(hx:0<=x/\x<S.ws.length)(hT:mV C S x 0 u r o S'):
  (l.length<pg*C.m/\r=none/\o∉l/\FS pg C S' (l++[o]))\/(l.length=pg*C.m/\r=some 4/\FS pg C S' l):=by
 obtain⟨ly,bs,q,f,rb,hP,O,h3⟩:=DQ.ex hD;have f_:=hP.c.mm;have J:∀s∈S.Q,s.bm<2^C.m:=λs hs=>(hP.c.ok s hs).2.2.1;have A5:=hP.c.so;have how:=hP.ow;have hF:=h.fi;have eH:=hF.ok;have hpl:=h.pl;have k1:=h.k1;cases hT with
 |bad mN=>omega
 |lift i a b a' b' dC xs o _ dR hl K=>rw[h.ct]at K;simp at K
 |no i a b a' b' dC n mN dR hl K hn hr =>
  right;rcases hr with⟨_,h6⟩|⟨x',h4,h5,h6,h7,h8⟩
  ·omega
  ·obtain rfl:x'=0:=by omega
   rw[h.f0]at h7 h8;have h9:fA 0 C.mn u (S.V 0)≠2:=by
    intro h;simp[h]at h7
   have h10:=Ja eH (Ji eH hu h9);have h11:=uo C.m S.Q (Nn h6 hF.V);have Hh:=hF.pg;rw[h10]at Hh;simp only[fS]at Hh;have h13:S.Q.length=pg:=by omega
   rw[h13,hF.tt]at h11;have h14:n=4:=by rw[h8];simp[Nu eH hu]
   subst h14;exact⟨h11,rfl,k1,h.f0,h.mm,A3 hl hpl,h.ct,hF,h.V,h.tk⟩
 |old i a b a' b' dC x' j s mN dR hl K hy D h3 h4 =>
  left;obtain rfl:x'=0:=by omega
  obtain⟨E,hnd,jR⟩:=iP h3;rw[getD_at h4]at hnd jR;have hsm:=J s (aH h4);obtain⟨f1,f2,f3⟩:=ky hsm h.mm.2 jR;have e1:=yc C.m S.Q j s {s with bm:=s.bm||| 2^ff s.bm} h4;simp only[rL hsm h.mm.2 jR]at e1;have gY:¬iM C.m C.sz S.Q (s.V:Int) (s.at_*64+ff s.bm*C.sz):=by
   rintro⟨j',i',s',es,hi,Gz,hn,ha⟩;have su:=jA f_.1 f_.2.2 hi;have hm2:=jA f_.1 f_.2.2 f1;simp only at hn ha;have e2:s.at_=s'.at_:=by omega
   have e3:j=j':=lO A5 h4 es (by omega) e2;subst e3;rw[h4]at es;cases es
   have e4:(ff s.bm:Int)*C.sz=i'*C.sz:=by omega
   have e5:(ff s.bm:Int)=i':=Int.eq_of_mul_eq_mul_right (by omega) e4;have e6:ff s.bm=i':=by omega
   rw[<- e6,f2]at Gz;cases Gz
  have kn:((s.V:Int),s.at_*64+ff s.bm*C.sz)∉l:=λhm=>gY (h.tk _ hm);have hlt:=Nl C.m h4 jR;have hle:S.Q.length<=pg:=by have:=hF.pg;have:=(mD (l:=(S.V 0).aca)).1;omega
  have hmul:S.Q.length*C.m<=pg*C.m:=gA _ hle;refine⟨by have:=hF.tt;omega,rfl,kn,k1,h.f0,h.mm,A3 hl hpl,h.ct,⟨eH,by simp only[dp];exact hF.pg,by have:=hF.tt;simp only[φ,ag];omega,λs' hs'=>?_⟩,?_,?_⟩
  ·rcases gK hs' with q|rfl
   ·exact hF.V s' q
   ·exact hnd
  ·exact aF.2 ⟨h.V,by simp,λp hp q hq e=>by
    simp only[ae,aR,dg]at hq;exact kn (by rw[<- hq,<- e];exact hp)⟩
  ·intro p hp;rcases aC.1 hp with hp|hp
   ·exact(h.tk p hp).or h4 _
   ·simp only[ae,aR,dg]at hp;subst hp;exact⟨j,ff s.bm,_,aP E,f1,by simp[Nat.testBit_or],rfl,rfl⟩
 |new i a b a' b' dC x' n q mN dR hl K hy D h3 h4 h5 h7 =>
  left;obtain rfl:n=0:=by omega
  obtain rfl:x'=0:=by omega
  have kV:fA 0 C.mn u (S.V 0)=2:=by
   have:=List.find?_some h4;simpa using this
  obtain⟨y0,hf⟩:∃y0,fit 0 (S.V 0).aca=some y0:=by
   cases hf:fit 0 (S.V 0).aca with
   |none=>simp[fA,hf]at kV
   |some y0=>exact⟨y0,rfl⟩
  obtain⟨wK,uV⟩:=iQ hf;have e1:(kC 0 (S.V 0)).aca=gV 0 y0 (S.V 0).aca:=by simp[kC,hf]
  have e2:=tU (by omega) eH.2.2 wK uV;have e3:pw 0=1:=rfl;have Gw:=hF.pg;have hne:1<=fS (S.V 0).aca:=(mD (l:=(S.V 0).aca)).2 (List.ne_nil_of_mem wK);have gY:¬iM C.m C.sz S.Q ((0:Nat):Int) (mO 0 (S.V 0)*64):=by
   rintro⟨j',i',s',es,hi,Gz,hn,ha⟩;have su:=jA f_.1 f_.2.2 hi;simp only at hn ha;have hs':=aH es;have:=how.fresh eH kV s' hs' (hF.V s' hs');omega
  have kn:(((0:Nat):Int),mO 0 (S.V 0)*64)∉l:=λhm=>gY (h.tk _ hm);have hle:S.Q.length+1<=pg:=by omega
  have hmul:(S.Q.length+1)*C.m<=pg*C.m:=gA _ hle;have uX:=qJ C.m S.Q;have su:=h.mm.1;rw[Nat.add_mul]at hmul;have htt:=hF.tt;have aaQ:(kC 0 (S.V 0)).ok:=Au (by omega) eH;refine⟨by omega,rfl,kn,k1,h.f0,h.mm,A3 hl hpl,h.ct,⟨by simp only[gJ];exact aaQ,?_,?_,λs hs=>?_⟩,?_,?_⟩
  ·simp only[gJ,ek];rw[e1];push_cast;omega
  ·simp only[yb,φ,ag];have e4:pop 1 C.m=1:=by
    have h0:=rL (x:=0) (m:=C.m) (Nat.two_pow_pos _) h.mm.2 (by rw[iT];omega);rw[CN,iT]at h0;exact h0
   omega
  ·rcases nV.mp hs with rfl|q
   ·rfl
   ·exact hF.V s q
  ·exact aF.2 ⟨h.V,by simp,λp hp q hq e=>by
    simp only[ae,aR,dg]at hq;exact kn (by rw[<- hq,<- e];exact hp)⟩
  ·intro p hp;rcases aC.1 hp with hp|hp
   ·exact(h.tk p hp).ins h7.1 _
   ·simp only[ae,aR,dg]at hp;subst hp;exact⟨q,0,⟨0,mO 0 (S.V 0),1⟩,by rw[cF _ h7.1,ai (by omega),af rfl],by omega,(show(1:Nat).testBit 0=true by decide),rfl,by simp⟩
end
theorem qb {α : Type}:∀(xs:List α) (o:Nat) (v : α),(xs.set o v).take o=xs.take o
 |[],_,_=>by simp
 |_::_,0,_=>rfl
 |x::xs,o+1,v=>by simp[qb xs o v]
theorem qf {α : Type}:∀(xs:List α) (o k:Nat) (v : α),o<k->(xs.set o v).drop k=xs.drop k
 |[],_,_,_,_=>by simp
 |x::xs,0,k+1,v,_=>rfl
 |x::xs,o+1,k+1,v,h=>by simp[qf xs o k v (by omega)]
theorem rQ {B e size g n c:Nat}:∀(vs:List Value) (o:Nat) (xs:List Value) (w:World),w.ownsRow B e size (.slice (some ⟨g,0,none⟩) n c) n xs->o+vs.length<=xs.length->(w.setCells g o vs).ownsRow B e size (.slice (some ⟨g,0,none⟩) n c) n (xs.take o++vs++xs.drop (o+vs.length))
 |[],o,xs,w,h,hl=>by simpa[World.setCells]using h
 |v::vs,o,xs,w,h,hl=>by
  have G:=(h.stored o v).1;simp only[bk]at hl;have ih:=rQ vs (o+1) (xs.set o v) (w.setCell ⟨g,o,none⟩ v) G (by rw[dp];omega);have e1:(xs.set o v).take (o+1)=xs.take o++[v]:=by
   rw[cK,qb,aP (by omega)];rfl
  have e2:(xs.set o v).drop (o+1+vs.length)=xs.drop (o+(v::vs).length):=by
   rw[qf _ _ _ _ (by omega),bk];congr 1;omega
  rw[e1,e2]at ih;simpa[World.setCells,List.append_assoc]using ih
section
variable {B:Nat}{w w':World}{Y d F ym:Nat}{P:Ps}
theorem Jj (h:jo B w Y d F ym P){t:Nat}{L:List Nat}(hL:P.L=t::L):
  ∃b c,P.vl=.slice (some ⟨b,0,none⟩) (L.length+1) c/\w.cell? ⟨b,0,none⟩=some (.int .i64 t)/\∀W,W.heap[b]?=w.heap[b]?->Calls prog 96 #[.slice (some ⟨b,0,none⟩) (L.length+1) c,.int .i64 0,.int .i64 1] W λev w'=>ev=.returned (.slice (some ⟨b,0,none⟩) L.length c)/\w'.ownsRow B 3 1 (.slice (some ⟨b,0,none⟩) L.length c) L.length (dX L)/\Kept b b W w':=by
 have hl:=h.l;have hlen:P.L.length=L.length+1:=by rw[hL];rfl
 obtain⟨b,c,hv,_⟩:=hl.form (by omega);obtain⟨f1,f2,f3,f4⟩:=iG h hv;have hc0:w.cell? ⟨b,0,none⟩=some (.int .i64 t):=by
  have:=f1 0 (by simp;omega);rw[hL]at this;simpa using this
 rw[hv,hlen]at hl;refine⟨b,c,by rw[hv,hlen],hc0,λW hW=>?_⟩;have hlW:=aI hl (λg hg=>by
  obtain rfl:b=g:=by simpa[Value.ownBlock]using hg
  exact hW)
 refine(Sh.slices_Delete_int_cells b 0 (L.length+1) c 0 1 (P.L.map Int.ofNat) W (by rw[eT];omega) (by omega) (by unfold maxLen at f3;omega) (by omega) (by omega) (λj E=>(η (w:=w) (a:=⟨b,0+j,none⟩) hW).trans (f1 j E)) (λj E=>(π (w:=w) (a:=⟨b,0+j,none⟩) hW).trans (f4 j (by omega)))).mono ?_;rintro ev w'⟨rfl,q,rfl⟩;have hd:(W.drewN q).ownsRow B 3 1 (.slice (some ⟨b,0,none⟩) (L.length+1) c) (L.length+1) (dX P.L):=aN hlW (iB (γ _ _) q);have e1:((((P.L.map Int.ofNat).take (L.length+1)).take 0++((P.L.map Int.ofNat).take (L.length+1)).drop 1++List.replicate (1-0) 0).map (Value.int .i64))=dX L++[.int .i64 0]:=by
  rw[hL];simp[dX];rw[bG (by simp)];rfl
 have hs:=rQ (dX L++[.int .i64 0]) 0 (dX P.L) (W.drewN q) hd (by simp[dX,hL]);refine⟨rfl,?_,?_⟩
 ·rw[e1];refine vN hs (by omega) ?_;simp[dX]
 ·rw[e1];exact(dY (iB (γ _ _) q)).trans (jY _ _ _)
end
section
variable {w w':World}{Y d n c:Nat}{p:Option Addr}
theorem yn (h:w.cell? ⟨d,1,none⟩=some (.slice p n c)):Calls prog 180 #[.pointer (some ⟨d,0,none⟩)] w λev w'=>ev=.returned (.int .i64 n)/\w'=w:=by
 go_enter func180,ntmps180;go_wp2;go_ret;exact⟨rfl,rfl⟩
theorem yo (h0:w.cell? ⟨Y,0,none⟩=some (.pointer (some ⟨d,0,none⟩)))(h:w.cell? ⟨d,1,none⟩=some (.slice p n c)):Calls prog 107 #[.pointer (some ⟨Y,0,none⟩)] w λev w'=>ev=.returned (.int .i64 n)/\w'=w:=by
 have HC:=I (yn h);clear h;go_enter func107,ntmps107;go_wp2_with fail;refine(Z HC).mono ?_;rintro ev w1⟨rfl,rfl⟩;go_wp2;go_ret;exact⟨rfl,rfl⟩
theorem lM (h0:w.cell? ⟨Y,0,none⟩=some (.pointer (some ⟨d,0,none⟩)))(h:w.cell? ⟨d,1,none⟩=some (.slice p n c)){e1:Addr}(he:w.cell? ⟨1,0,none⟩=some (bc e1))(x:Int):Calls prog 71 #[.pointer (some ⟨Y,0,none⟩),.int .i64 x] w λev w'=>ev=.returned (if 0<=x/\x<n then .nilIface else bc e1)/\w'=w:=by
 have HC:=I (yo h0 h);unfold bc at*;clear h;by_cases c1:x<0
 ·have d1:decide (x<0)=true:=by simpa using c1
  rw[ai (by omega)];go_enter func71,ntmps71;go_wp2;go_ret;exact⟨rfl,rfl⟩
 ·have d1:decide (x<0)=false:=by simpa using c1
  by_cases c2:x<n
  ·have d2:decide (x>=(n:Int))=false:=by simp;omega
   have d3:decide ((n:Int)<=x)=false:=by simp;omega
   rw[af (by omega)];clear he;go_enter func71,ntmps71;go_wp2_with fail;refine(Z HC).mono ?_;rintro ev w1⟨rfl,rfl⟩;go_wp2;go_ret;exact⟨rfl,rfl⟩
  ·have d2:decide (x>=(n:Int))=true:=by simp;omega
   have d3:decide ((n:Int)<=x)=true:=by simp;omega
   rw[ai (by omega)];go_enter func71,ntmps71;go_wp2_with fail;refine(Z HC).mono ?_;rintro ev w1⟨rfl,rfl⟩;go_wp2;go_ret;exact⟨rfl,rfl⟩
theorem jB {cb:Nat}(K:w.cell? ⟨d,0,none⟩=some (.pointer (some ⟨cb,0,none⟩))):Calls prog 72 #[.pointer (some ⟨d,0,none⟩)] w λev w'=>ev=.returned (.pointer (some ⟨cb,0,none⟩))/\w'=w:=by
 go_enter func72,ntmps72;go_wp2;go_ret;exact⟨rfl,rfl⟩
theorem Nv (a:Addr)(w:World):(binOp BinOp.eql 29 .nilIface (.iface 424 (.pointer (some a)))).run prog w=.ok (.bool false) w:=by kernel_rfl
theorem Jk (a:Addr)(w:World):Calls prog 150 #[.nilIface,.iface 424 (.pointer (some a))] w λev w'=>ev=.returned (.bool false)/\w'=w:=by
 have HQ:=Nv a w;go_enter func150,ntmps150;go_wp2;go_ret;exact⟨rfl,rfl⟩
end
section
variable {B:Nat}{w w':World}{Y d F ym c:Nat}{P:Ps}{p:Option Addr}
theorem A6 (h:jo B w Y d F ym P){R:List Bl}{o:Bl}(hR:P.R=R++[o]):
  Calls prog 77 #[.pointer (some ⟨Y,0,none⟩)] w λev w'=>ev=.returned (.tuple #[bz o.1 o.2,.nilIface])/\∃v',jo B w' Y d F ym {P with R:=R,vr:=v'}/\Kp (λb=>b=Y) w w'/\∀j,OB v' j->OB P.vr j:=by
 have F1:=χ (γ w.heap.size w) (cB 0 0);have R1:=I (cQ w);have G:=h.b F1;have hlen:P.R.length=R.length+1:=by rw[hR];simp
 obtain⟨g,cap,hv,hg,sD⟩:=G.r.form (by omega);have hr:=G.r;rw[hv,hlen]at hr;have qo:=gO P.R R.length (by omega);have ho:P.R[R.length]'(by omega)=o:=by simp[hR]
 rw[ho]at qo;have z0:=(hr.cellAt (2*R.length) (by omega)).trans qo.1;have z1:=(hr.cellAt (2*R.length+1) (by omega)).trans qo.2;rw[dZ 2]at z0 z1;have c2:=G.c2;rw[hv,hlen]at c2;have f2:=G.fz 2;have EZ:(0:Int)<=(R.length:Int):=by omega
 have TT:(R.length:Int)<((R.length+1:Nat):Int):=by omega
 have hk2:((R.length+1:Nat):Int)-1=(R.length:Int):=by omega
 have Ax:R.length+1<=9223372036854775807:=by have:=vF hr;omega
 have d1:decide ((R.length:Int)<0)=false:=by simp
 have abm:=(om hr).1;have gB:R.length<=cap:=by omega
 have hcut:=vN (k:=R.length) (ys:=flat R) hr (by omega) (by rw[hR,bM,<- cd R];simp);have H1:=I G;have HC:=I hcut;have HF:=I F1;have HV:=I hv;have hpl:=G.tg.lt;have hgp:g≠Y:=(fV hr).ne G.tg (by decide);have TF:=h.tg.lt;have KD:g<w.heap.size:=by
  have O:=h.r;rw[hv]at O;exact(O.lt g rfl).2
 obtain⟨oN,oA⟩:=o;simp only at*;clear h G hr hcut qo ho hR F1 hlen hv sD hg;generalize jG:R.length=k at*;have HK:=I jG;clear jG;unfold bz at*;go_enter func77,ntmps77;go_upto_region 1 with(fail);generalize hW:w.alloc (cB 0 0)=W at*;have hWb:w.heap.size<W.heap.size:=(Z R1).tg.lt;have B4:=χ (γ W.heap.size W) (cB oN oA);have q':=θ W #[.int .i64 oN,.int .i64 oA] 34;have q0:=q' 0;have q1:=q' 1;simp only[Δ,υ,ω]at q0 q1;have H4:=I ((Z H1).b B4);have R4:=I ((Z R1).b B4);have xO:=I (aN (Z HC) B4);have x2:=(B4.cell (p:=⟨Y,2,none⟩) hpl).trans c2;have xf:=(B4.frozen (p:=⟨Y,2,none⟩) hpl).trans f2;have jI:=I (bW (Z HF) B4);have hb4:W.heap.size≠w.heap.size:=by omega
 have hb5:W.heap.size≠Y:=by omega
 go_upto_region 5 with(fail);clear q' B4 H1 R1 HC HF c2 f2 z0 z1;generalize W.alloc (cB oN oA)=W4 at*;generalize W.heap.size=b4 at*;have H5:=I ((Z H4).Fi (w':=W4) (R':=R) (λb _=>rfl) (by rw[Z HK];exact Z xO));have R5:=(Z R4).blk (w':=W4.setCell ⟨Y,2,none⟩ (.slice (some ⟨g,0,none⟩) k cap)) (μ _ _ _ _ (by simp only;omega));have K5:=I ((Kp.below (S:=λb=>b=Y) (Z jI)).trans (Kp.set (S:=λb=>b=Y) W4 Y 2 (.slice (some ⟨g,0,none⟩) k cap) rfl));have q50:(W4.setCell ⟨Y,2,none⟩ (.slice (some ⟨g,0,none⟩) k cap)).cell? ⟨b4,0,none⟩=some (.int .i64 oN):=(bu (by simp<;>omega)).trans q0;have q51:(W4.setCell ⟨Y,2,none⟩ (.slice (some ⟨g,0,none⟩) k cap)).cell? ⟨b4,1,none⟩=some (.int .i64 oA):=(bu (by simp<;>omega)).trans q1;go_upto_region 6 with(fail);clear q0 q1 H4 R4 xO jI x2 xf;generalize W4.setCell ⟨Y,2,none⟩ (.slice (some ⟨g,0,none⟩) k cap)=W5 at*;obtain⟨r0,r1,bQ,rt⟩:=R5;have f0:=bQ 0;have f1:=bQ 1;obtain⟨t0,t1⟩:=aW r0 r1 (.int .i64 oN) (.int .i64 oA);have abK:=rt.lt;go_wp2;refine Θ (v:=.tuple #[.agg #[.int .i64 oN,.int .i64 oA],.nilIface]) (by simp[results,results77,go_sem,t0,t1];try rfl) rfl ?_;exact⟨rfl,_,(Z H5).sI rt (λe=>by
  obtain rfl:g=w.heap.size:=by simpa[OB,Value.ownBlock]using e
  omega) _ _,Kp.sI (Z K5) (ζ _) _ _,λj E=>by rw[Z HV];exact E⟩
theorem A7 (h:jo B w Y d F ym P)(hR:P.R=[])(hB:B<=w.heap.size)(e7:Addr)(he:w.cell? ⟨7,0,none⟩=some (bc e7))(jN:7<B)(hl:P.L.length<8)(kV:P.tk<1000000000000):
  Calls prog 77 #[.pointer (some ⟨Y,0,none⟩)] w λev w'=>ev=.returned (.tuple #[bz 0 0,bc e7])/\∃ic,jo B w' Y d F ym {P with L:=P.L++[P.tk+1],tk:=P.tk+1,vl:=ic}/\Kp (λb=>b=Y\/OB P.vl b) w w'/\∀j,OB ic j->OB P.vl j\/w.heap.size<=j:=by
 have F1:=χ (γ w.heap.size w) (cB 0 0);have R1:=cQ w;have G:=h.b F1;have mW:=I (Df G (σ hB F1.size) e7 ((F1.cell (p:=⟨7,0,none⟩) (by have:=aa w _ he;exact this)).trans he) jN hl kV);obtain⟨p,c,hv⟩:=aX G.r;have c2:=G.c2;rw[hv,hR]at c2;simp only[aA]at c2;have yq:∀j,OB P.vl j->j<w.heap.size:=λj E=>(ay h.l E).1.lt;have lU:∀j,OB P.vr j->j<w.heap.size:=λj E=>(ay h.r E).1.lt;have TF:=h.tg.lt;have fk:=I R1;have HF:=I F1;have hsz:(w.alloc (cB 0 0)).heap.size=w.heap.size+1:=by simp
 have HVL:=I yq;have A8:=I lU;clear h G hv hR he F1 R1 yq lU;unfold bz bc at*;go_enter func77,ntmps77;go_upto_region 1 with(fail);generalize w.alloc (cB 0 0)=W at*;go_wp2_with fail;refine(Z mW).mono ?_;rintro ev w1⟨rfl,ic,H1,K1,G1⟩;have R2:=(Z fk).blk (w':=w1) (K1.blk w.heap.size (by omega) (by
  rintro(e|e)
  ·omega
  ·have:=(Z HVL) _ e;omega))
 have HK:=I ((Kp.below (S:=λb=>b=Y\/OB P.vl b) (Z HF)).trans K1);have HH:=I H1;have HG:=I G1;obtain⟨r0,r1,bQ,rt⟩:=R2;have f0:=bQ 0;have f1:=bQ 1;obtain⟨t0,t1⟩:=aW r0 r1 (.int .i64 0) (.int .i64 0);clear H1 K1 G1 c2 fk HF mW;go_wp2;refine Θ (v:=.tuple #[.agg #[.int .i64 0,.int .i64 0],.iface 424 (.pointer (some e7))]) (by simp[results,results77,go_sem,t0,t1];try rfl) rfl ?_;refine⟨rfl,ic,(Z HH).sI rt (λe=>by have:=(Z A8) _ e;omega) _ _,Kp.sI (Z HK) (ζ _) _ _,λj E=>?_⟩;rcases(Z HG) j E with e|e
 ·exact ε e
 ·exact δ (by omega)
end
theorem mV.err {C:Dc}{S S':Ds}{x y:Int}{u:Bool}{r:Option Nat}{o:Bl}(h:mV C S x y u r o S')(hx:0<=x/\x<S.ws.length)(hy:0<=y/\y<C.k):r=none\/((r=some 4\/r=some 6)/\o=(0,0)):=by
 cases h with
 |bad h=>omega
 |lift=>exact ε rfl
 |no i a b a' b' dC n mN dR hl K hn hr =>
  right;rcases hr with⟨_,O⟩|⟨x',_,_,_,_,h8⟩
  ·exact absurd hy O
  ·refine⟨?_,rfl⟩;rw[h8];split
   ·exact δ rfl
   ·exact ε rfl
 |old=>exact ε rfl
 |new=>exact ε rfl
def Sm (_e:Nat->Addr)(lk:Nat)(o:Bl):Option Nat->Value
 |none=>.tuple #[bz o.1 o.2,.nilIface]
 |some _=>.tuple #[bz 0 0,.iface 147 (.pointer (some ⟨lk,0,none⟩))]
section
variable {C:Dc}{U:Nat->Prop}{X:Nat->Option Obj}{S:Ds}{w:World}{Y:Nat}{e:Nat->Addr}
theorem Sn (h:DK C U X S w)(hN:C.w0.heap.size<=C.N0)(he:dM C.w0 e)(h0:w.cell? ⟨Y,0,none⟩=some (.pointer (some ⟨C.d,0,none⟩)))(wN:Tag w Y 144){x y:Int}(hx:0<=x/\x<S.ws.length)(hy:0<=y/\y<C.k):
  Calls prog 75 #[.pointer (some ⟨Y,0,none⟩),.int .i64 x,.int .i64 y] w λev w'=>∃r o S' lk,ev=.returned (Sm e lk o r)/\mV C S x y false r o S'/\DK C U X S' w'/\UK U w w':=by
 have F1:=χ (γ w.heap.size w) (cB 0 0);have R1:=cQ w;have H1:=DQ.more h F1 (ζ _) R1.tg;have gL:=I (DK.take (C:=C) (S:=S) H1 hN he.Ro x y false);have c0:=(F1.cell (p:=⟨Y,0,none⟩) wN.lt).trans h0;have Ua:=I (DQ.wM h F1);have fk:=I R1;have Nf:Hid (∀j,U j->j<w.heap.size):=λj E=>(DQ.uk h j E).lt;have HE:=I he;have sU:=I (And.intro hx hy);clear h h0 wN F1 R1 H1 he hx hy;unfold bz at*;go_enter func75,ntmps75;go_upto_region 1 with(fail);generalize w.alloc (cB 0 0)=W at*;go_wp2_with fail;refine(Z gL).mono ?_;rintro ev w2⟨r,o,S',rfl,hT,D2,RI⟩;have hr:=hT.err (Z sU).1 (Z sU).2;obtain⟨oN,oA⟩:=o;have F3:=χ (γ w2.heap.size w2) (cB oN oA);have q':=θ w2 #[.int .i64 oN,.int .i64 oA] 34;have q0:=q' 0;have q1:=q' 1;simp only[Δ,υ,ω]at q0 q1;have D3:=D2.b F3;have R3:=((Z fk).blk (RI.u w.heap.size (δ rfl))).b F3;have U3:=I (((Z Ua).trans (RI.mono λj E=>ε E)).trans ((DQ.wM D2 F3).mono λj E=>ε E));have E3:=(Z HE).below (DQ.b0 D3);have hb3:w2.heap.size≠w.heap.size:=by
  have:=((Z fk).blk (RI.u w.heap.size (δ rfl))).tg.lt;omega
 have M7:=I D3;have HT:=I hT;have iq:=I R3;simp only at*;clear gL fk Ua D2 RI F3 q' D3 R3 hT c0;unfold wO bc at*;go_upto_region 2 with(fail);generalize w2.alloc (cB oN oA)=W3 at*;generalize w2.heap.size=b3 at*;have v6:=E3.v6;have v4:=E3.v4;have hne:e 4≠e 6:=λh=>by have:=E3.inj 4 6 (by omega) (by omega) h;omega
 obtain⟨cc4,ct4,hh4⟩:=E3.blk 4 (by omega);obtain⟨cc6,ct6,hh6⟩:=E3.blk 6 (by omega);have IO:=I (xp (e 4) (e 6) cc4 cc6 ct4 ct6 W3 hne hh4 hh6);clear E3 hne hh4 hh6;rcases hr with rfl|⟨rfl|rfl,ho⟩
 ·simp only;have N6:=I (Jk (e 6) W3);have N4:=I (Jk (e 4) W3);clear IO;go_wp2_with fail;refine(Z N6).mono ?_;rintro ev w4⟨rfl,rfl⟩;clear N6;go_wp2_with fail;refine(Z N4).mono ?_;rintro ev w5⟨rfl,rfl⟩;obtain⟨r0,r1,bQ,rt⟩:=Z iq;have f0:=bQ 0;have f1:=bQ 1;obtain⟨t0,t1⟩:=aW r0 r1 (.int .i64 oN) (.int .i64 oA);clear bQ N4;go_wp2;refine Θ (v:=.tuple #[.agg #[.int .i64 oN,.int .i64 oA],.nilIface]) (by simp[results,results75,go_sem,t0,t1];try rfl) rfl ?_;refine⟨none,(oN,oA),S',0,rfl,Z HT,((DQ.pB (DQ.pB (Z M7) (δ rfl) 0 _) (δ rfl) 1 _).less λj E=>ε E),?_⟩;exact((Z U3).box (Z Nf) (ζ _) _ _).box (Z Nf) (ζ _) _ _
 ·simp only;have N4:=I (u9 (e 4) W3);go_wp2_with fail;refine(Z IO).mono ?_;rintro ev w4⟨rfl,rfl⟩;clear IO;go_wp2_with fail;refine(Z N4).mono ?_;rintro ev w5⟨rfl,rfl⟩;obtain⟨r0,r1,bQ,rt⟩:=Z iq;have f0:=bQ 0;have f1:=bQ 1;obtain⟨t0,t1⟩:=aW r0 r1 (.int .i64 0) (.int .i64 0);have OQ:=rt.lt;have aaR:w.heap.size≠w5.heap.size:=by omega
  have zw:((w5.setCell ⟨w.heap.size,0,none⟩ (.int .i64 0)).setCell ⟨w.heap.size,1,none⟩ (.int .i64 0)).heap.size=w5.heap.size:=by simp[World.setCell]
  have D5:=DQ.pB (DQ.pB (Z M7) (δ rfl) 0 (.int .i64 0)) (δ rfl) 1 (.int .i64 0);have F5:=χ (γ ((w5.setCell ⟨w.heap.size,0,none⟩ (.int .i64 0)).setCell ⟨w.heap.size,1,none⟩ (.int .i64 0)).heap.size ((w5.setCell ⟨w.heap.size,0,none⟩ (.int .i64 0)).setCell ⟨w.heap.size,1,none⟩ (.int .i64 0))) (.cells #[.iface 424 (.pointer (some (e 4)))] 258);have U5:=I ((((Z U3).box (Z Nf) (ζ _) 0 (.int .i64 0)).box (Z Nf) (ζ _) 1 (.int .i64 0)).trans ((DQ.wM D5 F5).mono λj E=>ε E));have M8:=I ((D5.b F5).less λj E=>ε E);have t50:=(F5.cell (p:=⟨w.heap.size,0,none⟩) (by rw[zw];exact OQ)).trans t0;have t51:=(F5.cell (p:=⟨w.heap.size,1,none⟩) (by rw[zw];exact OQ)).trans t1;clear bQ F5 M7 U3 iq D5 zw;go_wp2;refine Θ (v:=.tuple #[.agg #[.int .i64 0,.int .i64 0],.iface 147 (.pointer (some ⟨w5.heap.size,0,none⟩))]) (by simp[results,results75,go_sem,t50,t51];try rfl) rfl ?_;exact⟨some 4,(oN,oA),S',w5.heap.size,rfl,Z HT,Z M8,Z U5⟩
 ·simp only;have N6:=I (u9 (e 6) W3);clear IO;go_wp2_with fail;refine(Z N6).mono ?_;rintro ev w4⟨rfl,rfl⟩;clear N6;obtain⟨r0,r1,bQ,rt⟩:=Z iq;have f0:=bQ 0;have f1:=bQ 1;obtain⟨t0,t1⟩:=aW r0 r1 (.int .i64 0) (.int .i64 0);have OQ:=rt.lt;have aaR:w.heap.size≠w4.heap.size:=by omega
  have zw:((w4.setCell ⟨w.heap.size,0,none⟩ (.int .i64 0)).setCell ⟨w.heap.size,1,none⟩ (.int .i64 0)).heap.size=w4.heap.size:=by simp[World.setCell]
  have D5:=DQ.pB (DQ.pB (Z M7) (δ rfl) 0 (.int .i64 0)) (δ rfl) 1 (.int .i64 0);have F5:=χ (γ ((w4.setCell ⟨w.heap.size,0,none⟩ (.int .i64 0)).setCell ⟨w.heap.size,1,none⟩ (.int .i64 0)).heap.size ((w4.setCell ⟨w.heap.size,0,none⟩ (.int .i64 0)).setCell ⟨w.heap.size,1,none⟩ (.int .i64 0))) (.cells #[.iface 424 (.pointer (some (e 6)))] 258);have U5:=I ((((Z U3).box (Z Nf) (ζ _) 0 (.int .i64 0)).box (Z Nf) (ζ _) 1 (.int .i64 0)).trans ((DQ.wM D5 F5).mono λj E=>ε E));have M8:=I ((D5.b F5).less λj E=>ε E);have t50:=(F5.cell (p:=⟨w.heap.size,0,none⟩) (by rw[zw];exact OQ)).trans t0;have t51:=(F5.cell (p:=⟨w.heap.size,1,none⟩) (by rw[zw];exact OQ)).trans t1;clear bQ F5 M7 U3 iq D5 zw;go_wp2;refine Θ (v:=.tuple #[.agg #[.int .i64 0,.int .i64 0],.iface 147 (.pointer (some ⟨w4.heap.size,0,none⟩))]) (by simp[results,results75,go_sem,t50,t51];try rfl) rfl ?_;exact⟨some 6,(oN,oA),S',w4.heap.size,rfl,Z HT,Z M8,Z U5⟩
end
variable {ab7:Nat->Prop}{P P':Ps}{w w':World}
def X2 (F ym:Nat)(X:Nat->Option Obj)(w:World):Nat->Option Obj:=λj=>if j=F\/j=ym then w.heap[j]? else X j
structure PD (B:Nat)(C:Dc)(ab7:Nat->Prop)(X:Nat->Option Obj)(Y F ym:Nat)(S:Ds)(P:Ps)(w:World):Prop where
 k:DK C (λj=>ab7 j\/OB P.vr j) (X2 F ym X w) S w
 m:jo B w Y C.d F ym P
 nr:NR C.z C.k (OB P.vl) w
 dj:∀j,OB P.vr j->¬ab7 j
 xt:X F=none/\X ym=none
 hB:C.w0.heap.size<=B
abbrev Ug:List TypeId:=[252,253,38,333,291,140,302,305,4,164,185,32,258,241,64,167,189,192,90,93,91,208,209,220,205,234,237,316,51,86,114,5,9,29,147]
structure PF (ab7:Nat->Prop)(P P':Ps)(w w':World):Prop where
 v:∀k,ab7 k->w'.heap[k]?=w.heap[k]?
 s:eh Ug w w'
 l:∀k,Tag w k 3->¬OB P.vl k->w'.heap[k]?=w.heap[k]?
 z:w.heap.size<=w'.heap.size
 l':∀j,OB P'.vl j->OB P.vl j\/w.heap.size<=j
 r':∀j,OB P'.vr j->OB P.vr j\/w.heap.size<=j
theorem PF.refl (ab7:Nat->Prop)(P:Ps)(w:World):PF ab7 P P w w:=⟨λ_ _=>rfl,λ_ _ _ _=>rfl,λ_ _ _=>rfl,ζ _,λ_ h=>ε h,λ_ h=>ε h⟩
theorem PF.below (hV:∀k,ab7 k->k<w.heap.size)(J:Below w.heap.size w w'):PF ab7 P P w w':=⟨λk D=>J.block k (hV k D),eo J,λk D _=>J.block k D.lt,J.size,λ_ h=>ε h,λ_ h=>ε h⟩
theorem PF.trans {P1 P2:Ps}{w1 w2:World}(h:PF ab7 P P1 w w1)(k:PF ab7 P1 P2 w1 w2):PF ab7 P P2 w w2:=by
 refine⟨λj E=>(k.v j E).trans (h.v j E),rJ h.s k.s,λj E hn=>?_,σ h.z k.z,λj E=>?_,λj E=>?_⟩
 ·have e:=h.l j E hn;refine(k.l j (E.blk e) (λho=>?_)).trans e;rcases h.l' j ho with G|G
  ·exact hn G
  ·have:=E.lt;omega
 ·rcases k.l' j E with G|G
  ·exact h.l' j G
  ·exact δ (σ h.z G)
 ·rcases k.r' j E with G|G
  ·exact h.r' j G
  ·exact δ (σ h.z G)
theorem PF.mono {V':Nat->Prop}(h:PF ab7 P P' w w')(hv:∀j,V' j->ab7 j):PF V' P P' w w':=⟨λk D=>h.v k (hv k D),h.s,h.l,h.z,h.l',h.r'⟩
theorem PF.box (h:PF ab7 P P' w w')(hV:∀k,ab7 k->k<w.heap.size){p:Nat}(hp:w.heap.size<=p)(o:Nat)(v:Value):PF ab7 P P' w (w'.setCell ⟨p,o,none⟩ v):=
 ⟨λk D=>(μ _ _ _ _ (by have:=hV k D;simp only;omega)).trans (h.v k D),λb t hm ht=>(μ _ _ _ _ (by have:=ht.lt;simp only;omega)).trans (h.s b t hm ht),λk D hn=>(μ _ _ _ _ (by have:=D.lt;simp only;omega)).trans (h.l k D hn),σ h.z (by simp[World.setCell]),h.l',h.r'⟩
section
variable {B:Nat}{C:Dc}{ab7 V':Nat->Prop}{X:Nat->Option Obj}{Y F ym:Nat}{S S':Ds}{P P':Ps}{w w':World}
theorem kG (G:w'.heap[F]?=w.heap[F]?)(O:w'.heap[ym]?=w.heap[ym]?):X2 F ym X w'=X2 F ym X w:=by
 funext j;unfold X2;split
 ·rename_i h;rcases h with rfl|rfl
  ·exact G
  ·exact O
 ·rfl
theorem PD.uu (h:PD B C ab7 X Y F ym S P w):∀k,ab7 k->k<w.heap.size:=λk D=>(DQ.uk h.k k (ε D)).lt
theorem PD.iH (h:PD B C ab7 X Y F ym S P w):∀k,ab7 k->Tag w k 34:=λk D=>DQ.uk h.k k (ε D)
theorem PD.b (h:PD B C ab7 X Y F ym S P w)(J:Below w.heap.size w w'):PD B C ab7 X Y F ym S P w':=by
 have e:=kG (X:=X) (J.block F h.m.t.lt) (J.block ym h.m.y.lt);exact⟨by rw[e];exact h.k.b J,h.m.b J,h.nr.keep h.k.dz (eo J) (λj E=>ε E),h.dj,h.xt,h.hB⟩
theorem PD.fb (h:PD B C ab7 X Y F ym S P w)(J:Below w.heap.size w w'):PF ab7 P P w w':=PF.below h.uu J
theorem PD.more (h:PD B C ab7 X Y F ym S P w)(J:Below w.heap.size w w'){b:Nat}(hw:w.heap.size<=b)(ht:Tag w' b 34):PD B C (λj=>ab7 j\/j=b) X Y F ym S P w':=by
 have G:=h.b J;have e:=kG (X:=X) (J.block F h.m.t.lt) (J.block ym h.m.y.lt);have O:=DQ.more h.k J hw ht;refine⟨?_,G.m,G.nr,λj E hv=>?_,h.xt,h.hB⟩
 ·rw[e];exact DQ.less O (λj E=>by
   rcases E with(h3|h3)|h3
   ·exact ε (ε h3)
   ·exact δ h3
   ·exact ε (δ h3))
 ·rcases hv with hv|rfl
  ·exact h.dj j E hv
  ·have:=(ay h.m.r E).1.lt;omega
theorem PD.less (h:PD B C ab7 X Y F ym S P w)(hv:∀j,V' j->ab7 j):PD B C V' X Y F ym S P w:=⟨DQ.less h.k (λj E=>E.imp (hv j) id),h.m,h.nr,λj E hj'=>h.dj j E (hv j hj'),h.xt,h.hB⟩
theorem PD.h_ (h:PD B C ab7 X Y F ym S P w){b:Nat}(J:ab7 b)(o:Nat)(v:Value):PD B C ab7 X Y F ym S P (w.setCell ⟨b,o,none⟩ v):=by
 have ht:=h.iH b J;have hn:¬OB P.vr b:=λe=>h.dj b e J;have hs:∀j,j≠b->(w.setCell ⟨b,o,none⟩ v).heap[j]?=w.heap[j]?:=λj E=>μ _ _ _ _ E;have e:=kG (X:=X) (hs F (by obtain⟨o,e1,e2⟩:=h.m.t.aQ;exact aj e1 e2 ht)) (hs ym (by obtain⟨o,e1,e2⟩:=h.m.y.aQ;exact aj e1 e2 ht));exact⟨by rw[e];exact DQ.pB h.k (ε J) o v,h.m.box ht hn o v,h.nr.keep h.k.dz (λc t hm K=>hs c (K.ne ht (λe=>by subst e;simp at hm))) (λj E=>ε E),h.dj,h.xt,h.hB⟩
theorem PD.turn (h:PD B C ab7 X Y F ym S P w)(D:DK C (λj=>ab7 j\/OB P.vr j) (X2 F ym X w) S' w')(hu:UK (λj=>ab7 j\/OB P.vr j) w w'):PD B C ab7 X Y F ym S' P w'/\PF ab7 P P w w':=by
 have hm:∀b,b=F\/b=ym->w'.heap[b]?=w.heap[b]?:=λb J=>by
  obtain⟨o,ho⟩:∃o,w.heap[b]?=some o:=by
   rcases J with rfl|rfl
   ·obtain⟨o,e1,_⟩:=h.m.t.aQ;exact⟨o,e1⟩
   ·obtain⟨o,e1,_⟩:=h.m.y.aQ;exact⟨o,e1⟩
  have:X2 F ym X w b=some o:=by unfold X2;rw[af J,ho]
  rw[(D.map this).1,ho]
 have e:=kG (X:=X) (hm F (ε rfl)) (hm ym (δ rfl));refine⟨⟨by rw[e];exact D,h.m.keep λb J=>?_,h.nr.keep h.k.dz (λc t hm K=>hu.s c t (by simp at hm;rcases hm with rfl|rfl<;>simp) K) (λj E=>ε E),h.dj,h.xt,h.hB⟩,⟨λk D=>hu.u k (ε D),λc t hm K=>hu.s c t ((show ∀t∈Ug,t∈RK by decide) t hm) K,λk D _=>hu.s k 3 (by simp) D,hu.z,λ_ h=>ε h,λ_ h=>ε h⟩⟩;rcases J with rfl|J|J|J|J
 ·exact hu.s b 144 (by simp) h.m.tg
 ·exact hm b (ε J)
 ·exact hm b (δ J)
 ·exact hu.u b (δ J)
 ·exact hu.s b 3 (by simp) (ay h.m.l J).1
theorem PD.own (h:PD B C ab7 X Y F ym S P w)(hm:jo B w' Y C.d F ym P')(D:Kp (PB Y F ym P) w w')(hr:∀j,OB P'.vr j->OB P.vr j\/w.heap.size<=j)(hl:∀j,OB P'.vl j->OB P.vl j\/w.heap.size<=j):PD B C ab7 X Y F ym S P' w'/\PF ab7 P P' w w':=by
 have hlt:=λb (J:PB Y F ym P b)=>h.m.lt J;have hno:∀c t,Tag w c t->t≠144->t≠34->t≠3->¬PB Y F ym P c:=λc t K n1 n2 n3 J=>by
  rcases J with rfl|rfl|rfl|J|J
  ·exact K.ne h.m.tg n1 rfl
  ·obtain⟨o,e1,e2⟩:=h.m.t.aQ;exact aj e1 e2 K rfl
  ·obtain⟨o,e1,e2⟩:=h.m.y.aQ;exact aj e1 e2 K rfl
  ·exact K.ne (ay h.m.r J).1 n2 rfl
  ·exact K.ne (ay h.m.l J).1 n3 rfl
 have Pf:∀k,ab7 k->¬PB Y F ym P k:=λk D J=>by
  have ht:=h.iH k D;rcases J with rfl|rfl|rfl|J|J
  ·exact ht.ne h.m.tg (by decide) rfl
  ·obtain⟨o,e1,e2⟩:=h.m.t.aQ;exact aj e1 e2 ht rfl
  ·obtain⟨o,e1,e2⟩:=h.m.y.aQ;exact aj e1 e2 ht rfl
  ·exact h.dj k J D
  ·exact ht.ne (ay h.m.l J).1 (by decide) rfl
 have hnr:NR C.z C.k (PB Y F ym P) w:=λg c i h' d e1 e2 hi J=>by
  obtain⟨g2,c2,rows,e3,o2,r2⟩:=h.k.dz.cf;rw[e3]at e1;simp only[τ,ψ,av,bI,aZ]at e1;obtain⟨rfl,rfl⟩:=e1;obtain⟨O,d2,e4,o3⟩:=r2 i hi;rw[(o2.cellAt i (by omega)).trans e4]at e2;simp only[τ,ψ,av,bI,aZ]at e2;obtain⟨rfl,rfl⟩:=e2;have ht:Tag w O 3:=fV o3;rcases J with rfl|rfl|rfl|J|J
  ·exact ht.ne h.m.tg (by decide) rfl
  ·obtain⟨o,e1,e2⟩:=h.m.t.aQ;exact aj e1 e2 ht rfl
  ·obtain⟨o,e1,e2⟩:=h.m.y.aQ;exact aj e1 e2 ht rfl
  ·exact ht.ne (ay h.m.r J).1 (by decide) rfl
  ·exact h.nr g2 c2 i O d2 e3 ((o2.cellAt i (by omega)).trans e4) hi J
 have hX:∀b o,X b=some o->¬PB Y F ym P b:=λb o e J=>by
  have hx2:X2 F ym X w b=some o:=by
   unfold X2;rw[ai,e];rintro(rfl|rfl)
   ·rw[h.xt.1]at e;cases e
   ·rw[h.xt.2]at e;cases e
  obtain⟨e1,e2⟩:=h.k.map hx2;rcases J with rfl|rfl|rfl|J|J
  ·exact aj e1 e2 h.m.tg rfl
  ·rw[h.xt.1]at e;cases e
  ·rw[h.xt.2]at e;cases e
  ·exact aj e1 e2 (ay h.m.r J).1 rfl
  ·exact aj e1 e2 (ay h.m.l J).1 rfl
 refine⟨⟨h.k.iV D hnr (λb J=>σ h.hB (hlt b J).2) (λb J=>?_) (λb o e=>?_) (λj E=>?_),hm,(h.nr.keep h.k.dz (λc t sB K=>D.blk c K.lt (hno c t K (by rintro rfl;simp at sB) (by rintro rfl;simp at sB) (by rintro rfl;simp at sB))) hl),λj E hv=>?_,h.xt,h.hB⟩,⟨λk nB=>D.blk k (h.uu k nB) (Pf k nB),λc t sB K=>D.blk c K.lt (hno c t K (by rintro rfl;simp at sB) (by rintro rfl;simp at sB) (by rintro rfl;simp at sB)),λk nB hn=>D.blk k nB.lt (λJ=>?_),D.size,hl,hr⟩⟩
 ·rcases J with rfl|rfl|rfl|J|J
  ·exact δ (δ ⟨144,h.m.tg,by decide,by decide⟩)
  ·obtain⟨o,e1,e2⟩:=h.m.t.aQ;exact δ (ε ⟨o,by unfold X2;rw[af (ε rfl),e1]⟩)
  ·obtain⟨o,e1,e2⟩:=h.m.y.aQ;exact δ (ε ⟨o,by unfold X2;rw[af (δ rfl),e1]⟩)
  ·exact ε (δ J)
  ·exact δ (δ ⟨3,(ay h.m.l J).1,by decide,by decide⟩)
 ·unfold X2 at e;by_cases J:b=F\/b=ym
  ·rw[af J]at e;refine⟨e,?_,ε ?_⟩
   ·rcases J with rfl|rfl
    ·obtain⟨o',e1,e2⟩:=hm.t.aQ;rw[e1]at e;rw[<- ah e];exact e2
    ·obtain⟨o',e1,e2⟩:=hm.y.aQ;rw[e1]at e;rw[<- ah e];exact e2
   ·rcases J with rfl|rfl
    ·obtain⟨o',e1,e2⟩:=h.m.t.aQ;exact⟨o',by unfold X2;rw[af (ε rfl),e1]⟩
    ·obtain⟨o',e1,e2⟩:=h.m.y.aQ;exact⟨o',by unfold X2;rw[af (δ rfl),e1]⟩
  ·rw[ai J]at e;have hx2:X2 F ym X w b=some o:=by unfold X2;rw[ai J,e]
   obtain⟨e1,e2⟩:=h.k.map hx2;exact⟨(D.blk b (Array.getElem?_eq_some_iff.mp e1).1 (hX b o e)).trans e1,e2,ε ⟨o,hx2⟩⟩
 ·rcases E with E|E
  ·exact⟨(h.iH j E).blk (D.blk j (h.uu j E) (Pf j E)),ε (ε E)⟩
  ·refine⟨(ay hm.r E).1,?_⟩;rcases hr j E with e|e
   ·exact ε (δ e)
   ·exact δ e
 ·rcases hr j E with e|e
  ·exact h.dj j e hv
  ·have:=h.uu j hv;omega
 ·rcases J with rfl|rfl|rfl|J|J
  ·exact nB.ne h.m.tg (by decide) rfl
  ·obtain⟨o,e1,e2⟩:=h.m.t.aQ;exact aj e1 e2 nB rfl
  ·obtain⟨o,e1,e2⟩:=h.m.y.aQ;exact aj e1 e2 nB rfl
  ·exact nB.ne (ay h.m.r J).1 (by decide) rfl
  ·exact hn J
theorem PD.far (h:PD B C ab7 X Y F ym S P w){t:Nat}{κ : TypeId}(D:Kp (λb=>b=t) w w')(ht:Tag w t κ)(h0:C.w0.heap.size<=t)(n1 : κ≠34)(n2 : κ∉Si)(n3 : κ≠144)(n4 : κ≠3):PD B C ab7 X Y F ym S P w':=by
 have hs:∀j,j<w.heap.size->j≠t->w'.heap[j]?=w.heap[j]?:=λj E hn=>D.blk j E hn;have wN:∀b,PB Y F ym P b->b≠t:=λb J=>by
  rcases J with rfl|rfl|rfl|J|J
  ·exact h.m.tg.ne ht n3.symm
  ·obtain⟨o,e1,e2⟩:=h.m.t.aQ;exact aj e1 e2 ht
  ·obtain⟨o,e1,e2⟩:=h.m.y.aQ;exact aj e1 e2 ht
  ·exact(ay h.m.r J).1.ne ht n1.symm
  ·exact(ay h.m.l J).1.ne ht n4.symm
 have e:=kG (X:=X) (hs F h.m.t.lt (wN F (δ (ε rfl)))) (hs ym h.m.y.lt (wN ym (δ (δ (ε rfl)))));have hK:DK C (λj=>ab7 j\/OB P.vr j) (X2 F ym X w) S w':=by
  refine h.k.iV D ?_ (λb J=>by subst J;exact h0) (λb J=>by subst J;exact δ (δ ⟨κ,ht,n1,n2⟩)) (λb o e=>?_) (λj E=>?_)
  ·rintro g c i h' d e1 e2 hi rfl;obtain⟨g2,c2,rows,e3,o2,r2⟩:=h.k.dz.cf;rw[e3]at e1;simp only[τ,ψ,av,bI,aZ]at e1;obtain⟨rfl,rfl⟩:=e1;obtain⟨O,d2,e4,o3⟩:=r2 i hi;rw[(o2.cellAt i (by omega)).trans e4]at e2;simp only[τ,ψ,av,bI,aZ]at e2;obtain⟨rfl,rfl⟩:=e2;exact(fV o3).ne ht n4.symm rfl
  ·obtain⟨e1,e2⟩:=h.k.map e;exact⟨(hs b (Array.getElem?_eq_some_iff.mp e1).1 (aj e1 e2 ht)).trans e1,e2,ε ⟨o,e⟩⟩
  ·have hj':=DQ.uk h.k j E;exact⟨hj'.blk (hs j hj'.lt (hj'.ne ht n1.symm)),ε E⟩
 exact⟨by rw[e];exact hK,h.m.keep λb J=>hs b (h.m.lt J).1 (wN b J),h.nr.keep h.k.dz (λc t' hm K=>hs c K.lt (K.ne ht (λe=>n2 (by subst e;simp at hm;rcases hm with rfl|rfl<;>simp)))) (λj E=>ε E),h.dj,h.xt,h.hB⟩
theorem PF.fresh (h:PF ab7 P P' w w')(hV:∀k,ab7 k->k<w.heap.size){w2:World}{t:Nat}(D:Kp (λb=>b=t) w' w2)(ht:w.heap.size<=t):PF ab7 P P' w w2 :=
 ⟨λk nB=>(D.blk k (ι (hV k nB) h.z) (by have:=hV k nB;omega)).trans (h.v k nB),λb t' hm J=>(D.blk b (ι J.lt h.z) (by have:=J.lt;omega)).trans (h.s b t' hm J),λk nB hn=>(D.blk k (ι nB.lt h.z) (by have:=nB.lt;omega)).trans (h.l k nB hn),σ h.z D.size,h.l',h.r'⟩
end
theorem Nw (lk t:Nat)(old:Value)(w:World)(hg:w.cell? ⟨9,0,none⟩=some (.iface 342 (.agg #[.pointer (some ⟨12,29,none⟩)])))(zq:w.cell? ⟨t,0,none⟩=some old)(Oz:w.frozen? ⟨t,0,none⟩=false):
  Calls prog 76 #[.iface 147 (.pointer (some ⟨lk,0,none⟩)),.iface 149 (.pointer (some ⟨t,0,none⟩))] w λev w'=>ev=.returned (.bool true)/\Kp (λb=>b=t) w w' :=
 (Hg ⟨lk,0,none⟩ ⟨t,0,none⟩ old w hg zq Oz).mono λev w' ⟨G,O⟩=>⟨G,by
  rw[O];exact(Kp.below (χ (χ (χ (χ (γ _ _) _) _) _) _)).trans (Kp.set _ t 0 _ rfl)⟩
def TkP (B:Nat)(C:Dc)(ab7:Nat->Prop)(X:Nat->Option Obj)(Y F ym:Nat)(S:Ds)(P:Ps)(x y:Int)(e:Nat->Addr)(w:World)(ev:Ending)(w':World):Prop :=
 ∃r o S',mV C S x y false r o S' /\
  ((r=none/\ev=.returned (.tuple #[bz o.1 o.2,.nilIface])/\PD B C ab7 X Y F ym S' {P with T:=P.T++[o],q:=P.q+1} w'/\PF ab7 P {P with T:=P.T++[o],q:=P.q+1} w w') \/
  (r≠none/\∃R o2 rR,P.R=R++[o2]/\ev=.returned (.tuple #[bz o2.1 o2.2,.nilIface])/\PD B C ab7 X Y F ym S' {P with R:=R,vr:=rR,T:=P.T++[o2],q:=P.q+1} w'/\PF ab7 P {P with R:=R,vr:=rR,T:=P.T++[o2],q:=P.q+1} w w') \/
  (r≠none/\P.R=[]/\∃ic,ev=.returned (.tuple #[bz 0 0,bc (e 7)])/\PD B C ab7 X Y F ym S' {P with L:=P.L++[P.tk+1],tk:=P.tk+1,vl:=ic} w'/\PF ab7 P {P with L:=P.L++[P.tk+1],tk:=P.tk+1,vl:=ic} w w'))
section
variable {B:Nat}{C:Dc}{ab7 V':Nat->Prop}{X:Nat->Option Obj}{Y F ym:Nat}{S S':Ds}{P:Ps}{w w':World}{e:Nat->Addr}
theorem Mo.mono {q q':Nat}{T:List Bl}(h:Mo w F q T)(hq:q<=q'):Mo w F q' T:=by
 obtain⟨ab8,G,O⟩:=h.own;exact⟨⟨ab8,G.mono hq,O⟩,h.wf,h.V⟩
theorem My.mono {q q':Nat}{ab6:List (Nat×Bl)}(h:My w ym q ab6)(hq:q<=q'):My w ym q' ab6:=by
 obtain⟨ab8,G,O⟩:=h.own;exact⟨⟨ab8,G.mono hq,O⟩,h.V⟩
theorem jo.maps {d:Nat}(h:jo B w Y d F ym P)(J:∀b,b=Y\/OB P.vr b\/OB P.vl b->w'.heap[b]?=w.heap[b]?){T':List Bl}{Y':List (Nat×Bl)}{q':Nat}(ht:Mo w' F q' T')(hy:My w' ym q' Y'):jo B w' Y d F ym {P with T:=T',ab6:=Y',q:=q'}:=by
 have hp:=J Y (ε rfl);have K:=λj=>η (w:=w) (a:=⟨Y,j,none⟩) hp;exact⟨(K 0).trans h.c0,(K 1).trans h.c1,(K 2).trans h.c2,(K 3).trans h.c3,(K 4).trans h.c4,(K 5).trans h.c5,(K 6).trans h.c6,h.tg.blk hp,λo=>(π (w:=w) (a:=⟨Y,o,none⟩) hp).trans (h.fz o),aI h.r (λg hg=>J g (δ (ε hg))),aI h.l (λg hg=>J g (δ (δ hg))),ht,hy,h.ne,h.ge,h.gt⟩
theorem jo.yr {d:Nat}(h:jo B w Y d F ym P){b:Nat}(J:b=Y\/OB P.vr b\/OB P.vl b):b≠F/\b≠ym:=by
 obtain⟨o,e1,e2⟩:=h.t.aQ;obtain⟨o',e3,e4⟩:=h.y.aQ;rcases J with rfl|J|J
 ·exact⟨λe=>aj e1 e2 h.tg e.symm,λe=>aj e3 e4 h.tg e.symm⟩
 ·exact⟨λe=>aj e1 e2 (ay h.r J).1 e.symm,λe=>aj e3 e4 (ay h.r J).1 e.symm⟩
 ·exact⟨λe=>aj e1 e2 (ay h.l J).1 e.symm,λe=>aj e3 e4 (ay h.l J).1 e.symm⟩
theorem PD.took (h:PD B C ab7 X Y F ym S P w){o:Bl}(hw:W2 o.1 o.2)(hn:o∉P.T)(hq:P.q<maxLen):∃w',(Instr.mapUpdate 141 (.map (some F)) (.agg #[.int .i64 o.1,.int .i64 o.2]) (.agg #[])).run prog w=.ok () w'/\PD B C ab7 X Y F ym S {P with T:=P.T++[o],q:=P.q+1} w'/\PF ab7 P {P with T:=P.T++[o],q:=P.q+1} w w'/\Kp (λb=>b=F) w w':=by
 obtain⟨w',hr,hm,D⟩:=h.m.t.put hq hw hn;have hK:Kp (λb=>b=F) w w':=Kp.kept D rfl rfl;have Sp:=h.m.maps (w':=w') (λb J=>D.block b (by
  rcases J with rfl|J|J
  ·exact h.m.tg.lt
  ·exact(ay h.m.r J).1.lt
  ·exact(ay h.m.l J).1.lt) (h.m.yr J).1 (h.m.yr J).1) hm ((h.m.y.blk (D.block ym h.m.y.lt h.m.ne.symm h.m.ne.symm)).mono (Nat.le_succ _))
 obtain⟨G,O⟩:=h.own Sp (hK.mono λk _ e=>δ (ε e)) (λj E=>ε E) (λj E=>ε E);exact⟨w',hr,G,O,hK⟩
theorem yu (h:PD B C ab7 X Y F ym S P w)(hN:C.w0.heap.size<=C.N0)(he:dM C.w0 e)(Hh:11<B)(hL:P.L=[]){x y:Int}(hx:0<=x/\x<S.ws.length)(hy:0<=y/\y<C.k)(hq:P.q<1000000)(kV:P.tk<1000000)
  (hf:∀(o:Bl) (S':Ds) (U:Nat->Prop) (X:Nat->Option Obj) (W:World),mV C S x y false none o S'->DK C U X S' W->o∉P.T/\W2 o.1 o.2)(hs:∀o∈P.R,o∉P.T/\W2 o.1 o.2):
  Calls prog 15 #[.pointer (some ⟨Y,0,none⟩),.int .i64 x,.int .i64 y] w λev w'=>TkP B C ab7 X Y F ym S P x y e w ev w':=by
 have F1:=χ (γ w.heap.size w) (cB 0 0);have R1:=cQ w;have H1:=h.more F1 (ζ _) R1.tg;have cZ:=I (h.fb F1);have E1:=he.below (DQ.b0 H1.k);obtain⟨TZ,Zv,_⟩:=(DQ.db H1.k).d1;have kH:=I (lM (Y:=Y) (d:=C.d) H1.m.c0 Zv E1.v1 x);rw[af hx]at kH;have Jl:=I (jB (DQ.db H1.k).d0);have rS:=h.uu;have fk:=I R1;have dD:=I H1;have c0:=H1.m.c0;have c5:=H1.m.c5;obtain⟨pl,cl,hv⟩:=aX H1.m.l;rw[hv,hL]at c5;simp only[aA]at c5;have zA:Hid (∀W,PD B C (λj=>ab7 j\/j=w.heap.size) X Y F ym S P W->Calls prog 73 #[.pointer (some ⟨C.c,0,none⟩),.int .i64 y] W λev w'=>ev=.returned (.bool true)/\Below W.heap.size W w'):=λW hW=>by
  obtain⟨ly,bs,q,f,rb,p1,p2,p3⟩:=DQ.ex hW.k;refine(vz C.c C.z C.mn C.lw C.hi C.k C.nb C.fm C.F S.V C.fr y W e (he.below (DQ.b0 hW.k)).three p1.d p1.c.c0).mono ?_;rintro ev w'⟨rfl,J⟩;rw[aM hy];exact⟨rfl,J⟩
 have HE:=I he;have sU:=I (And.intro hx hy);have Dg:=I hf;have HSP:=I hs;have HV:=I rS;clear h F1 R1 H1 E1 Zv rS he hv hf hs;unfold bc at*;go_enter func15,ntmps15;go_upto_region 1 with(fail);generalize w.alloc (cB 0 0)=W at*;go_wp2_with fail;refine(Z kH).mono ?_;rintro ev w1⟨rfl,rfl⟩;clear kH;go_wp2_with fail;refine(Z Jl).mono ?_;rintro ev w2⟨rfl,rfl⟩;clear Jl;have WH:=I ((Z zA) w2 (Z dD));unfold ptr at*;go_wp2_with fail;refine(Z WH).mono ?_;rintro ev w3⟨rfl,b3⟩;have H3:=(Z dD).b b3;have fY:=I ((Z cZ).trans (((Z dD).fb b3).mono λj E=>ε E));have iq:=I ((Z fk).b b3);have d5:=(b3.cell (p:=⟨Y,5,none⟩) (Z dD).m.tg.lt).trans c5;have HAK:=I (Sn H3.k hN (Z HE) H3.m.c0 H3.m.tg (Z sU).1 (Z sU).2);have eD:=I H3;clear zA WH dD cZ fk c5 c0 b3 H3;go_wp2_with fail;refine(Z HAK).mono ?_;rintro ev w4⟨r,o,S',lk,rfl,hT,D4,Pw⟩;obtain⟨H4,P4⟩:=(Z eD).turn D4 Pw;have hr:=hT.err (Z sU).1 (Z sU).2;obtain⟨oN,oA⟩:=o;have R4:=(Z iq).blk (w':=w4) (Pw.u w.heap.size (ε (δ rfl)));have jI:=I ((Z fY).trans (P4.mono λj E=>ε E));have HT:=I hT;have abL:=R4.tg.lt;clear HAK fY iq D4 Pw d5 P4;rcases hr with rfl|⟨hr,ho⟩
 ·have F6:=χ (χ (γ w4.heap.size w4) (cB oN oA)) (.cells #[.pointer none] 147);have hs5:(w4.alloc (cB oN oA)).heap.size=w4.heap.size+1:=by simp
  have F5:=χ (γ (w4.alloc (cB oN oA)).heap.size (w4.alloc (cB oN oA))) (.cells #[.pointer none] 147);have q':=θ w4 #[.int .i64 oN,.int .i64 oA] 34;have q0:=(F5.cell (p:=⟨w4.heap.size,0,none⟩) (by rw[hs5];simp)).trans (q' 0);have q1:=(F5.cell (p:=⟨w4.heap.size,1,none⟩) (by rw[hs5];simp)).trans (q' 1);have T9:=(bB w4 #[.int .i64 oN,.int .i64 oA] 34).b F5;simp only[Δ,υ,ω]at q0 q1;have H6:=H4.b F6;have Dh:=I ((Z jI).trans ((H4.fb F6).mono λj E=>ε E));have R6:=R4.b F6;obtain⟨xV,hfw⟩:=(Z Dg) (oN,oA) S' _ _ _ (Z HT) H6.k;obtain⟨w7,xS,H7,P7,K7⟩:=(H6.b (dw _)).took hfw xV (by unfold maxLen;omega);have c3:=H6.m.c3;have GA:=H6.m.t.aQ;have R7:=R6.blk (w':=w7) (K7.blk w.heap.size R6.tg.lt (λe=>by obtain⟨o',e1,e2⟩:=GA;exact aj e1 e2 R6.tg e.symm));have Jm:w4.heap.size≠F:=λe=>by obtain⟨o',e1,e2⟩:=GA;exact aj e1 e2 T9 e.symm
  have q70:=(K7.cell (p:=⟨w4.heap.size,0,none⟩) T9.lt Jm).trans q0;have q71:=(K7.cell (p:=⟨w4.heap.size,1,none⟩) T9.lt Jm).trans q1;have zB:=I (((Z Dh).trans ((H6.fb (dw _)).mono λj E=>ε E)).trans (P7.mono λj E=>ε E));have zC:=I H7;have HN:=I (λt W=>QV t W);have aaS:w4.heap.size≠w.heap.size:=by omega
  simp only at xS;unfold Sm bz;clear H4 H6 F6 F5 q' jI Dh R6 R4 H7 P7 K7 T9 GA hs5;simp only;go_upto_region 10 with(fail);generalize(w4.alloc (cB oN oA)).alloc (.cells #[.pointer none] 147)=W6 at*;go_wp2_with fail;refine((Z HN) _ _).mono ?_;rintro ev w8⟨rfl,rfl⟩;go_wp2_with fail;clear HN;go_region
  obtain⟨r0,r1,bQ,rt⟩:=R7;have f0:=bQ 0;have f1:=bQ 1;obtain⟨t0,t1⟩:=aW r0 r1 (.int .i64 oN) (.int .i64 oA);clear q0 q1 c3 xS;go_wp2;refine Θ (v:=.tuple #[.agg #[.int .i64 oN,.int .i64 oA],.nilIface]) (by simp[results,results15,go_sem,t0,t1];try rfl) rfl ?_;refine⟨none,(oN,oA),S',Z HT,ε ⟨rfl,rfl,(((Z zC).h_ (δ rfl) 0 _).h_ (δ rfl) 1 _).less λj E=>ε E,?_⟩⟩;exact((Z zB).box (Z HV) (ζ _) 0 _).box (Z HV) (ζ _) 1 _
 ·have ry:oN=0/\oA=0:=by simpa using ho
  obtain⟨rfl,rfl⟩:=ry;have F5a:=χ (γ w4.heap.size w4) (cB 0 0);have hs5:(w4.alloc (cB 0 0)).heap.size=w4.heap.size+1:=by simp
  have F5:=χ (γ (w4.alloc (cB 0 0)).heap.size (w4.alloc (cB 0 0))) (.cells #[.pointer none] 147);have F6:=bW F5a F5;have H5:=H4.more F5a (ζ _) (cQ w4).tg;have H6:=H5.b F5;have R96:=(cQ w4).b F5;have R6:=R4.b F6;have z6:=θ (w4.alloc (cB 0 0)) #[.pointer none] 147 0;have Di:=aG (w:=w4.alloc (cB 0 0)) #[.pointer none] 147 (w4.heap.size+1) 0 hs5.symm;rw[hs5]at z6;simp only[Δ,υ]at z6;have Dh:=I ((Z jI).trans ((H4.fb F6).mono λj E=>ε E));have E6:=(Z HE).below (DQ.b0 H6.k);have aaS:w4.heap.size≠w.heap.size:=by omega
  have Sq:w4.heap.size+1<((w4.alloc (cB 0 0)).alloc (.cells #[.pointer none] 147)).heap.size:=by simp
  have HA:=I (Nw lk (w4.heap.size+1) (.pointer none) _ E6.Z_ z6 Di);have PE:=I H6;have yv:=I R6;have Sr:=I R96;have hav:∀{r:Option Nat},r≠none->Sm e lk ((0:Int),(0:Int)) r=.tuple #[.agg #[.int .i64 0,.int .i64 0],.iface 147 (.pointer (some ⟨lk,0,none⟩))]:=fun {r} h=>by
   cases r with
   |none=>exact absurd rfl h
   |some n=>rfl
  have hrn:r≠none:=by rcases hr with rfl|rfl<;>simp
  rw[hav hrn];have ni:=I hrn;have T6:=bB (w4.alloc (cB 0 0)) #[.pointer none] 147;rw[hs5]at T6;have Uh:=I T6;have h0w:C.w0.heap.size<=w4.heap.size+1:=σ (DQ.b0 H4.k).size (Nat.le_succ _);have hw4:w.heap.size<=w4.heap.size:=(Z jI).z;clear H4 H5 H6 F5a F5 F6 jI R6 R4 R96 hs5 E6 ho hav hr hrn z6 Di T6;go_upto_region 10 with(fail);generalize(w4.alloc (cB 0 0)).alloc (.cells #[.pointer none] 147)=W6 at*;go_wp2_with fail;refine(Z HA).mono ?_;rintro ev w8⟨rfl,K8⟩;have H8:=(Z PE).far K8 (Z Uh) h0w (by decide) (by decide) (by decide) (by decide);have Zw:=I ((Z Dh).fresh (Z HV) K8 (by omega));have R8:=(Z yv).blk (w':=w8) (K8.blk w.heap.size (Z yv).tg.lt (by omega));have R98:=(Z Sr).blk (w':=w8) (K8.blk w4.heap.size (Z Sr).tg.lt (by omega));have E8:=(Z HE).below (DQ.b0 H8.k);have Zx:=I H8;have oJ:=I R8;have Nx:=I R98;generalize KW:w4.heap.size=b9 at*;have Ss:B<=w8.heap.size:=σ H8.m.ge (ck H8.m.tg.lt);have kI:P.L.length<8:=by rw[hL];simp
  clear HA K8 PE yv Sr Uh Dh h0w;by_cases hR:P.R=[]
  ·have HS:=I (A7 H8.m hR Ss (e 7) E8.v7 (by omega) kI (by omega));clear H8 E8 R8 R98;unfold bz bc at*;go_wp2_with fail;refine(Z HS).mono ?_;rintro ev w9⟨rfl,ic,M9,K9,G9⟩;obtain⟨H9,P9⟩:=(Z Zx).own M9 (K9.mono λk _ e=>by
    rcases e with e|e
    ·exact ε e
    ·exact δ (δ (δ (δ e)))) (λj E=>ε E) G9
   have RB:=(Z Nx).blk (w':=w9) (P9.v b9 (δ rfl));have RR:=(Z oJ).blk (w':=w9) (P9.v w.heap.size (ε (δ rfl)));have Su:=I (((H9.h_ (b:=b9) (δ rfl) 0 (.int .i64 0)).h_ (b:=b9) (δ rfl) 1 (.int .i64 0)).less (V':=λj=>ab7 j\/j=w.heap.size) λj E=>ε E);have Ny:=I ((((Z Zw).trans (P9.mono λj E=>ε (ε E))).box (Z HV) (p:=b9) (by omega) 0 (.int .i64 0)).box (Z HV) (p:=b9) (by omega) 1 (.int .i64 0));have Fk:=RR.blk (w':=(w9.setCell ⟨b9,0,none⟩ (.int .i64 0)).setCell ⟨b9,1,none⟩ (.int .i64 0)) ((μ _ _ _ _ (by simp only;omega)).trans (μ _ _ _ _ (by simp only;omega)));obtain⟨s0,s1,Sv,st⟩:=RB;have g0:=Sv 0;have g1:=Sv 1;obtain⟨u0,u1⟩:=aW s0 s1 (.int .i64 0) (.int .i64 0);clear Sv HS M9 K9 G9 H9 P9 Zx Zw oJ Nx RR;go_upto_region 12 with(fail);generalize(w9.setCell ⟨b9,0,none⟩ (.int .i64 0)).setCell ⟨b9,1,none⟩ (.int .i64 0)=W10 at*;obtain⟨r0,r1,bQ,rt⟩:=Fk;have f0:=bQ 0;have f1:=bQ 1;obtain⟨t0,t1⟩:=aW r0 r1 (.int .i64 0) (.int .i64 0);clear bQ s0 s1 g0 g1 u0 u1;go_wp2;refine Θ (v:=.tuple #[.agg #[.int .i64 0,.int .i64 0],.iface 424 (.pointer (some (e 7)))]) (by simp[results,results15,go_sem,t0,t1];try rfl) rfl ?_;refine⟨r,(0,0),S',Z HT,δ (δ ⟨Z ni,hR,ic,rfl,(((Z Su).h_ (δ rfl) 0 _).h_ (δ rfl) 1 _).less λj E=>ε E,?_⟩)⟩;exact((Z Ny).box (Z HV) (ζ _) 0 _).box (Z HV) (ζ _) 1 _
  ·obtain⟨R',⟨pN,pA⟩,hRR⟩:∃R' o2,P.R=R'++[o2]:=⟨P.R.dropLast,P.R.getLast hR,(fP hR).symm⟩;have HS:=I (A6 H8.m hRR);obtain⟨xV,hfw⟩:=(Z HSP) (pN,pA) (by rw[hRR];simp);have HFO:=I xV;have PG:=I hfw;clear H8 E8 R8 R98 hR xV hfw;unfold bz at*;simp only at HS;go_wp2_with fail;refine(Z HS).mono ?_;rintro ev w9⟨rfl,rR,M9,K9,G9⟩;obtain⟨H9,P9⟩:=(Z Zx).own M9 (K9.mono λk _ e=>ε e) (λj E=>ε (G9 j E)) (λj E=>ε E);have RB:=(Z Nx).blk (w':=w9) (P9.v b9 (δ rfl));have RR:=(Z oJ).blk (w':=w9) (P9.v w.heap.size (ε (δ rfl)));have Su:=((H9.h_ (b:=b9) (δ rfl) 0 (.int .i64 pN)).h_ (b:=b9) (δ rfl) 1 (.int .i64 pA)).less (V':=λj=>ab7 j\/j=w.heap.size) λj E=>ε E;have Ny:=(((Z Zw).trans (P9.mono λj E=>ε (ε E))).box (Z HV) (p:=b9) (by omega) 0 (.int .i64 pN)).box (Z HV) (p:=b9) (by omega) 1 (.int .i64 pA);have Fk:=RR.blk (w':=(w9.setCell ⟨b9,0,none⟩ (.int .i64 pN)).setCell ⟨b9,1,none⟩ (.int .i64 pA)) ((μ _ _ _ _ (by simp only;omega)).trans (μ _ _ _ _ (by simp only;omega)));obtain⟨s0,s1,Sv,st⟩:=RB;have g0:=Sv 0;have g1:=Sv 1;obtain⟨u0,u1⟩:=aW s0 s1 (.int .i64 pN) (.int .i64 pA);have T9:=(st.set ⟨b9,0,none⟩ (.int .i64 pN)).set ⟨b9,1,none⟩ (.int .i64 pA);obtain⟨w7,xS,H7,P7,K7⟩:=(Su.b (dw _)).took (Z PG) (Z HFO) (show P.q<maxLen by unfold maxLen;omega);have c3:=Su.m.c3;have GA:=Su.m.t.aQ;have R7:=Fk.blk (w':=w7) (K7.blk w.heap.size Fk.tg.lt (λe=>by obtain⟨o',e1,e2⟩:=GA;exact aj e1 e2 Fk.tg e.symm));have Jm:b9≠F:=λe=>by obtain⟨o',e1,e2⟩:=GA;exact aj e1 e2 T9 e.symm
   have q70:=(K7.cell (p:=⟨b9,0,none⟩) T9.lt Jm).trans u0;have q71:=(K7.cell (p:=⟨b9,1,none⟩) T9.lt Jm).trans u1;have zB:=I ((Ny.trans ((Su.fb (dw _)).mono λj E=>ε E)).trans (P7.mono λj E=>ε E));have zC:=I H7;simp only at xS;clear Sv HS M9 K9 G9 H9 P9 Zx Zw oJ Nx RR H7 P7 K7 GA T9 Su Ny Fk PG HFO;go_upto_region 12 with(fail);generalize(w9.setCell ⟨b9,0,none⟩ (.int .i64 pN)).setCell ⟨b9,1,none⟩ (.int .i64 pA)=W10 at*;clear s0 s1 g0 g1 st;go_wp2_with fail;go_region
   obtain⟨r0,r1,bQ,rt⟩:=R7;have f0:=bQ 0;have f1:=bQ 1;obtain⟨t0,t1⟩:=aW r0 r1 (.int .i64 pN) (.int .i64 pA);clear bQ xS c3 u0 u1;go_wp2;refine Θ (v:=.tuple #[.agg #[.int .i64 pN,.int .i64 pA],.nilIface]) (by simp[results,results15,go_sem,t0,t1];try rfl) rfl ?_;refine⟨r,(0,0),S',Z HT,δ (ε ⟨Z ni,R',(pN,pA),rR,hRR,rfl,(((Z zC).h_ (δ rfl) 0 _).h_ (δ rfl) 1 _).less λj E=>ε E,?_⟩)⟩;exact((Z zB).box (Z HV) (ζ _) 0 _).box (Z HV) (ζ _) 1 _
end
end Pl
namespace Mg
open Fr Bd Zn Dz Sb
theorem jb {w:World}{B k cp j:Nat}{p:Option Addr}{l:List Bl}{x y:Int}(h:w.ownsRow B 34 2 (.slice p k cp) k (flat l))(hl:l.length=k)(E:l[j]?=some (x,y)):∃g,p=some ⟨g,0,none⟩/\w.cell? ⟨g,j*2,none⟩=some (.int .i64 x)/\w.cell? ⟨g,j*2+1,none⟩=some (.int .i64 y):=by
 obtain⟨qm,Mt⟩:=ν.1 E;obtain⟨g,cap,e,_⟩:=h.form (by omega);simp only[ψ]at e;obtain⟨rfl,_,rfl⟩:=e;obtain⟨f0,f1⟩:=gO l j qm;rw[Mt,dZ]at f0 f1;exact⟨g,rfl,(h.cellAt (j*2) (by omega)).trans f0,(h.cellAt (j*2+1) (by omega)).trans f1⟩
theorem Bf {w:World}{b e size n g o d m:Nat}{xs:List Value}(h:w.ownsRow b e size (.slice (some ⟨g,o,none⟩) m d) n xs):Tag w g e:=by
 rcases h.2 with⟨e2,_⟩|⟨g',cap,cur,e2,hg,hh,_⟩
 ·cases e2
 ·simp only[ψ,τ,av]at e2;obtain⟨⟨rfl,_⟩,_⟩:=e2;exact⟨cur,_,hh⟩
end Mg
end Go.Proofs.YtcbmfakjfoggaaaGreatDoor
