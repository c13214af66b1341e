/- I33 -/
import Derived.Test.YtcbmfakjfoggaaaGreatDoorA0
import Derived.Test.YtcbmfakjfoggaaaGreatDoorH26
import Derived.Test.YtcbmfakjfoggaaaGreatDoorH30
import Derived.Test.YtcbmfakjfoggaaaGreatDoorH29
set_option maxHeartbeats 0
set_option maxRecDepth 100000
namespace Go.Proofs.YtcbmfakjfoggaaaGreatDoor
open _root_.Go.Proofs.Tryz Go.RowKit Go.Maps
namespace Pl
open Fr Bd Zn Dz Sb Mg
section
variable {B:Nat}{C:Dc}{ab7 V':Nat->Prop}{X:Nat->Option Obj}{Y F ym d:Nat}{S S':Ds}{P P':Ps}{w w':World}{e:Nat->Addr}
theorem Kb (h:jo B w Y d F ym P){t:Nat}{ab9 L:List Nat}(hL:P.L=ab9++t::L)(hn:t∉ab9):Calls prog 95 #[P.vl,.int .i64 (t:Int)] w λev w'=>ev=.returned (.int .i64 ab9.length)/\w'=w:=by
 have hlen:P.L.length=ab9.length+(L.length+1):=by rw[hL];simp
 obtain⟨b,c,hv,_⟩:=h.l.form (by omega);obtain⟨f1,f2,f3,f4⟩:=iG h hv;rw[hv];refine(Sh.slices_Index_int b 0 P.L.length c (P.L.map Int.ofNat) t w (by simp) (by unfold maxLen at f3;omega) f1).mono ?_;rintro ev w'⟨rfl,rfl⟩;refine⟨?_,rfl⟩;rw[Lib.idxOf_hit (P.L.map Int.ofNat) P.L.length ab9.length t (by omega) (by simp) (by rw[hL];simp[List.getD_eq_getElem?_getD]) (λj E=>by
  rw[hL];simp only[cU,au];rw[ar (by simpa using E),dy,ξ E];simp only[Option.map_some,bY];intro e;exact hn (by rw[<- show ab9[j]=t from by have:((ab9[j]:Nat):Int)=(t:Int):=e;omega];exact aO E))]
theorem PD.XW (h:PD B C ab7 X Y F ym S P w){b c:Nat}{L':List Nat}{w4:World}(hv:OB P.vl b)(o4:w4.ownsRow B 3 1 (.slice (some ⟨b,0,none⟩) L'.length c) L'.length (dX L'))(k4:Kept b b w w4):
  PD B C ab7 X Y F ym S {P with L:=L',vl:=.slice (some ⟨b,0,none⟩) L'.length c} (w4.setCell ⟨Y,5,none⟩ (.slice (some ⟨b,0,none⟩) L'.length c))/\PF ab7 P {P with L:=L',vl:=.slice (some ⟨b,0,none⟩) L'.length c} w (w4.setCell ⟨Y,5,none⟩ (.slice (some ⟨b,0,none⟩) L'.length c)):=by
 have vG:=(ay h.m.l hv).1;have K4:Kp (PB Y F ym P) w w4:=(Kp.kept (S:=λj=>j=b) k4 rfl rfl).mono λk _ e=>by
  obtain rfl:k=b:=e;exact δ (δ (δ (δ hv)))
 have hne:∀j,j=Y\/j=F\/j=ym\/OB P.vr j->w4.heap[j]?=w.heap[j]?:=λj E=>by
  have hjb:j≠b:=by
   rcases E with h'|h'|h'|h'
   ·exact λe=>(vG.ne h.m.tg (by decide)) (e.symm.trans h')
   ·obtain⟨o,e1,e2⟩:=h.m.t.aQ;exact λe=>aj e1 e2 vG (h'.symm.trans e)
   ·obtain⟨o,e1,e2⟩:=h.m.y.aQ;exact λe=>aj e1 e2 vG (h'.symm.trans e)
   ·exact((ay h.m.r h').1.ne vG (by decide))
  have hlt:j<w.heap.size:=(h.m.lt (b:=j) (by
   rcases E with h|h|h|h
   ·exact ε h
   ·exact δ (ε h)
   ·exact δ (δ (ε h))
   ·exact δ (δ (δ (ε h))))).1
  exact k4.block j hlt hjb hjb
 have M5:=h.m.AZ hne o4;have K5:Kp (PB Y F ym P) w (w4.setCell ⟨Y,5,none⟩ (.slice (some ⟨b,0,none⟩) L'.length c)):=K4.trans (Kp.set w4 Y 5 _ (ε rfl));exact h.own M5 K5 (λj E=>ε E) (λj E=>ε (by
  have:b=j:=by simpa[OB,Value.ownBlock]using E
  rw[<- this];exact hv))
end
section
variable {B:Nat}{C:Dc}{ab7 V':Nat->Prop}{X:Nat->Option Obj}{Y F ym d:Nat}{S S':Ds}{P P':Ps}{w w':World}{e:Nat->Addr}
theorem y9 (h:PD B C ab7 X Y F ym S P w)(hI:PI S P){t:Nat}(hy:fT P.ab6 (t:Int)=none){ab9 L:List Nat}(hL:P.L=ab9++t::L)(hn:t∉ab9):
  Calls prog 26 #[.pointer (some ⟨Y,0,none⟩),.int .i64 t] w λev w'=>ev=.returned .nilIface/\∃ic,PD B C ab7 X Y F ym S {P with L:=ab9++L,vl:=ic} w'/\PF ab7 P {P with L:=ab9++L,vl:=ic} w w':=by
 have hk8:=hI.ln;have XP:ab9.length<8:=by rw[hL]at hk8;simp at hk8;omega
 have nD:=I (lX h (iO (σ (hI.lt t (by rw[hL];simp)).1 hI.tk)));rw[hy,kf hy]at nD;simp only[Option.getD_none,Option.isSome_none]at nD;have HL:=I hL;have HN:=I hn;have rf:IntKind.i64.wrap ((ab9.length:Int)+1)=(ab9.length:Int)+1:=aB _ (by omega);have EZ:¬(ab9.length:Int)<0:=by omega
 clear h hy hI hk8 hL hn;unfold bz at*;go_enter func26,ntmps26;go_wp2_with fail;refine(Z nD).mono ?_;rintro ev w2⟨rfl,XY,XZ⟩;have H2:PD B C ab7 X Y F ym S P w2:=XY;have P2:PF ab7 P P w w2:=XZ;have F3:=χ (γ w2.heap.size w2) (cB 0 0);have H3:=H2.b F3;have fY:=I (P2.trans (H2.fb F3));have kS:=I (Kb H3.m (Z HL) (Z HN));obtain⟨b,c,hv,pV⟩:=Ka H3.m (Z HL);have c5:=H3.m.c5;have f5:=H3.m.fz 5;have T3:=H3.m.tg;rw[hv]at c5 kS;have zu:OB P.vl b:=by rw[hv];rfl
 have vG:=(ay H3.m.l zu).1;have GZ:Y≠b:=λe=>(vG.ne T3 (by decide)) e.symm;have HDL:=I (pV _ rfl);have AH:=I zu;have eD:=I H3;have hpl:=T3.lt;clear H2 P2 XY XZ F3 H3 pV hv zu vG nD;go_upto_region 5 with(fail);generalize w2.alloc (cB 0 0)=W3 at*;generalize w2.heap.size=b9 at*;go_wp2_with fail;refine(Z kS).mono ?_;rintro ev w4⟨rfl,rfl⟩;clear kS;go_wp2_with fail;refine(Z HDL).mono ?_;rintro ev w5⟨rfl,o5,k5⟩;obtain⟨H6,P6⟩:=(Z eD).XW (Z AH) o5 k5;rw[φ]at H6 P6;have PE:=I H6;have Dh:=I ((Z fY).trans P6);have e5:=k5.block Y hpl GZ GZ;have z5:w5.cell? ⟨Y,5,none⟩=some (.slice (some ⟨b,0,none⟩) (ab9.length+(L.length+1)) c):=(η (a:=⟨Y,5,none⟩) e5).trans c5;have y5:w5.frozen? ⟨Y,5,none⟩=false:=(π (a:=⟨Y,5,none⟩) e5).trans f5;clear H6 P6 o5 k5 e5 eD fY HDL AH c5 f5 T3;go_wp2;go_ret;exact⟨rfl,_,Z PE,Z Dh⟩
end
end Pl
end Go.Proofs.YtcbmfakjfoggaaaGreatDoor
