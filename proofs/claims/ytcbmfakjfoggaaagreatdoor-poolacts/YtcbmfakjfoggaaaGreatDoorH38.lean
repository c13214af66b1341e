/- H38 -/
import Derived.Test.YtcbmfakjfoggaaaGreatDoorA0
import Derived.Test.YtcbmfakjfoggaaaGreatDoorH35
import Derived.Test.YtcbmfakjfoggaaaGreatDoorH34
set_option maxHeartbeats 0
set_option maxRecDepth 100000
namespace Go.Proofs.YtcbmfakjfoggaaaGreatDoor
open _root_.Go.Proofs.Tryz Go.RowKit Go.Maps
namespace Pl
open Fr Bd Zn Dz Sb Mg Rd
section
variable {B:Nat}{C:Dc}{M:Mc}{aK N:Nat}{U U':Nat->Prop}{S S':Ds}{R R':Rs}{w w1 w':World}{x y t:Int}{o:Bl}
theorem Gb (h:RP B C M aK U S R w)(K:R.cl=false)(kI:R.L.length<=8)(ht:Wt R.L t):Calls prog 25 #[.pointer (some ⟨aK,0,none⟩),.int .i64 t] w λev w'=>ev=.returned (.tuple #[bz 0 0,.bool false,.int .i64 0])/\Below w.heap.size w w':=by
 have F1:=χ (γ w.heap.size w) (cB 0 0);have R1:=cQ w;have H1:=h.b F1;have wP:=h.fresh R1.tg (ζ _);have c7:=H1.m.c7;rw[K]at c7;have c4:=H1.m.c4;have kS:=I (jv H1.m.l rfl (by omega) t);obtain⟨pl,cl,hv⟩:=aX H1.m.l;rw[hv]at c4 kS;have cZ:=I F1;have fk:=I R1;have mW:=I ht;clear h F1 R1 H1 wP K hv kI ht;unfold bz at*;go_enter func25,ntmps25;go_upto_region 1 with(fail);generalize w.alloc (cB 0 0)=W at*;go_wp2_with fail;refine(Z kS).mono ?_;rintro ev w1⟨rfl,⟨ab9,x,Mm,hL,hx,hK,rfl⟩|⟨hn,_⟩⟩;case inr=>exact absurd (Z mW) hn
 have d1:decide ((ab9.length:Int)>=0)=true:=by simp
 have d2:decide ((0:Int)<=(ab9.length:Int))=true:=by simp
 clear kS hL hx hK mW;generalize ab9.length=kk at*;obtain⟨r0,r1,bQ,rt⟩:=Z fk;have f0:=bQ 0;have f1:=bQ 1;obtain⟨t0,t1⟩:=aW r0 r1 (.int .i64 0) (.int .i64 0);clear bQ;go_wp2;refine Θ (v:=.tuple #[.agg #[.int .i64 0,.int .i64 0],.bool false,.int .i64 0]) (by simp[results,results25,go_sem,t0,t1];try rfl) rfl ?_;exact⟨rfl,((Z cZ).setCell (ζ _) _).setCell (ζ _) _⟩
theorem zm (h:RP B C M aK U S R w)(K:R.cl=false)(kI:R.L.length<=8)(hY:R.ab6.length<1000)(ht:¬Wt R.L t)(hy:∀p∈R.ab6,(p.1:Int)≠t):Calls prog 25 #[.pointer (some ⟨aK,0,none⟩),.int .i64 t] w λev w'=>ev=.returned (.tuple #[bz 0 0,.bool false,.int .i64 4])/\Below w.heap.size w w':=by
 have F1:=χ (γ w.heap.size w) (cB 0 0);have R1:=cQ w;have H1:=h.b F1;have wP:=h.fresh R1.tg (ζ _);have c7:=H1.m.c7;rw[K]at c7;have c4:=H1.m.c4;have kS:=I (jv H1.m.l rfl (by omega) t);obtain⟨pl,cl,hv⟩:=aX H1.m.l;rw[hv]at c4 kS;have Ko:Hid (∀W,RP B C M aK U S R W->Calls prog 94 #[.pointer (some ⟨aK,0,none⟩),.int .i64 t] W λev w'=>ev=.returned (.tuple #[bz 0 0,.bool false])/\Below W.heap.size W w'):=λW hW=>qj hW.m (by omega) hy;have cZ:=I F1;have fk:=I R1;have dD:=I H1;have mW:=I ht;clear h F1 R1 H1 wP K hv kI ht hy hY;unfold bz at*;go_enter func25,ntmps25;go_upto_region 1 with(fail);generalize w.alloc (cB 0 0)=W at*;go_wp2_with fail;refine(Z kS).mono ?_;rintro ev w1⟨rfl,⟨ab9,x,Mm,hL,hx,hK,rfl⟩|⟨_,rfl⟩⟩;case inl=>exact absurd ⟨x,by rw[hL];simp,hx⟩ (Z mW)
 have xQ:=I ((Z Ko) w1 (Z dD));unfold bz at*;clear kS Ko mW;go_wp2_with fail;refine(Z xQ).mono ?_;rintro ev w2⟨rfl,b2⟩;have F3:=χ (γ w2.heap.size w2) (cB 0 0);have iq:=I (((Z fk).b b2).b F3);have fY:=I (bW (bW (Z cZ) b2) F3);clear xQ b2 F3 fk cZ dD;go_upto_region 6 with(fail);generalize w2.alloc (cB 0 0)=W3 at*;obtain⟨r0,r1,bQ,rt⟩:=Z iq;have f0:=bQ 0;have f1:=bQ 1;obtain⟨t0,t1⟩:=aW r0 r1 (.int .i64 0) (.int .i64 0);clear bQ;go_wp2;refine Θ (v:=.tuple #[.agg #[.int .i64 0,.int .i64 0],.bool false,.int .i64 4]) (by simp[results,results25,go_sem,t0,t1];try rfl) rfl ?_;exact⟨rfl,((Z fY).setCell (ζ _) _).setCell (ζ _) _⟩
theorem BR (h:RP B C M aK U S R w)(K:R.cl=false)(kI:R.L.length<=8)(hY:R.ab6.length<1000)(BP:R.T.length<1000){tt:Nat}(ht:¬Wt R.L (tt:Int)){ab9 Mm:List (Nat×Bl)}(Yl:R.ab6=ab9++(tt,o)::Mm)(hK:∀p∈ab9,(p.1:Int)≠tt):Calls prog 25 #[.pointer (some ⟨aK,0,none⟩),.int .i64 tt] w λev w'=>ev=.returned (.tuple #[bz o.1 o.2,.bool true,.int .i64 0])/\∃lq ie,RP B C M aK U S {R with ab6:=ab9++Mm,T:=R.T++[o],vY:=lq,vT:=ie} w'/\fX C.N0 aK R {R with ab6:=ab9++Mm,T:=R.T++[o],vY:=lq,vT:=ie} U U w w':=by
 have F1:=χ (γ w.heap.size w) (cB 0 0);have R1:=cQ w;have H1:=h.b F1;have wP:=h.fresh R1.tg (ζ _);have c7:=H1.m.c7;rw[K]at c7;have c4:=H1.m.c4;have kS:=I (jv H1.m.l rfl (by omega) tt);obtain⟨pl,cl,hv⟩:=aX H1.m.l;rw[hv]at c4 kS;have Ko:Hid (∀W,RP B C M aK U S R W->Calls prog 94 #[.pointer (some ⟨aK,0,none⟩),.int .i64 tt] W λev w'=>ev=.returned (.tuple #[bz o.1 o.2,.bool true])/\∃lq ie,RP B C M aK U S {R with ab6:=ab9++Mm,T:=R.T++[o],vY:=lq,vT:=ie} w'/\fX C.N0 aK R {R with ab6:=ab9++Mm,T:=R.T++[o],vY:=lq,vT:=ie} U U W w'):=λW hW=>(se hW.m hW.lo.2 (by omega) (by omega) Yl hK).mono (by
  rintro ev w'⟨rfl,lq,ie,hm,D,G,O⟩;exact⟨rfl,lq,ie,hW.own hm (D.mono λb _ J=>by
   rcases J with J|J
   ·exact ε J
   ·exact δ (δ (ε J))) (λ_ h=>ε h) G (λ_ h=>ε h) (λj E=>δ (O j E))⟩)
 have cZ:=I (fX.below (N:=C.N0) (aK:=aK) (R:=R) (U:=U) F1);have fk:=I R1;have dD:=I H1;have sw:=I wP;have mW:=I ht;clear h F1 R1 H1 wP K hv kI ht Yl hK hY BP;obtain⟨oN,oA⟩:=o;unfold bz at*;go_enter func25,ntmps25;go_upto_region 1 with(fail);generalize w.alloc (cB 0 0)=W at*;go_wp2_with fail;refine(Z kS).mono ?_;rintro ev w1⟨rfl,⟨K',x,Mm',hL,hx,hK,rfl⟩|⟨_,rfl⟩⟩;case inl=>exact absurd ⟨x,by rw[hL];simp,hx⟩ (Z mW)
 have xQ:=I ((Z Ko) w1 (Z dD));clear kS Ko mW;go_wp2_with fail;refine(Z xQ).mono ?_;rintro ev w2⟨rfl,lq,ie,H2,F2⟩;obtain⟨e2,BO2⟩:=(Z dD).row F2 (Z sw);have F3:=χ (γ w2.heap.size w2) (cB oN oA);have q':=θ w2 #[.int .i64 oN,.int .i64 oA] 34;have q0:=q' 0;have q1:=q' 1;simp only[Δ,υ,ω]at q0 q1;have iq:=I (((Z fk).blk e2).b F3);have tu:=I (BO2.b F3);have fY:=I (((Z cZ).trans F2).trans (fX.below F3));have eD:=I (H2.b F3);clear xQ F2 H2 e2 BO2 F3 q' fk cZ dD sw;go_upto_region 6 with(fail);generalize w2.alloc (cB oN oA)=W3 at*;obtain⟨r0,r1,bQ,rt⟩:=Z iq;have f0:=bQ 0;have f1:=bQ 1;obtain⟨t0,t1⟩:=aW r0 r1 (.int .i64 oN) (.int .i64 oA);clear bQ;go_wp2;refine Θ (v:=.tuple #[.agg #[.int .i64 oN,.int .i64 oA],.bool true,.int .i64 0]) (by simp[results,results25,go_sem,t0,t1];try rfl) rfl ?_;exact⟨rfl,_,_,((Z eD).box (Z tu) _ _).box ((Z tu).set _ _) _ _,((Z fY).box (ζ _) _ _).box (ζ _) _ _⟩
end
end Pl
end Go.Proofs.YtcbmfakjfoggaaaGreatDoor
