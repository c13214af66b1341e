/- H09 -/
import Derived.Test.YtcbmfakjfoggaaaGreatDoorA0
import Derived.Test.YtcbmfakjfoggaaaGreatDoorH05
import Derived.Test.YtcbmfakjfoggaaaGreatDoorH06
import Derived.Test.YtcbmfakjfoggaaaGreatDoorH01
import Derived.Test.YtcbmfakjfoggaaaGreatDoorH04
set_option maxHeartbeats 0
set_option maxRecDepth 100000
namespace Go.Proofs.YtcbmfakjfoggaaaGreatDoor
open Go.Maps _root_.Go.Proofs.Tryz Go.RowKit
namespace Fr
theorem tH (a k:Int):(a%pw k==0)=al a k:=by
 have h:=QJ a k;cases K:al a k
 ·rw[K]at h;simpa using h
 ·rw[K]at h;simpa using h
theorem pW (w:World)(x k:Int):∀j u,([.int .i64 x,.int .i64 k]:List Value)[j]?=some u->(w.alloc (bV x k)).cell? ((⟨w.heap.size,0,none⟩:Addr).add j)=some u:=by
 intro j u E
 match j,E with
 |0,E=>simp at E;subst E;simp[Addr.add]
 |1,E=>simp at E;subst E;simp[Addr.add]
theorem xe (x k:Int):∀u∈([.int .i64 x,.int .i64 k]:List Value),u.oneCell'=true:=by
 intro u hu;simp at hu;rcases hu with rfl|rfl<;>rfl
theorem Ei (a n:Int)(w:World)(h0:0<=a)(hn:0<=n)(O:a+n<=256):
  Calls prog 200 #[.int .i64 a,.int .i64 n] w λev w'=>∃v,ev=.returned (.tuple #[v,.bool true])/\w'.ownsRow w.heap.size 291 2 v (cv a n).length (flat (cv a n))/\Below w.heap.size w w'/\(cv a n=[]->v=.slice none 0 0):=by
 obtain⟨i0,hi,hz0,hz1,hz2⟩:=aY oU;have d1:decide (a<0)=false:=by simp;omega
 have d2:decide (256<a)=false:=by simp;omega
 have d3:decide (n<0)=false:=by simp;omega
 have d4:decide (256<n)=false:=by simp;omega
 have d5:decide (256<a+n)=false:=by simp;omega
 have hlen:(cv a n).length<=256:=by have:=oO a n;omega
 have hL:[]++cv a (a+n-a)=cv a n:=by rw[show a+n-a=n from by omega];rfl
 generalize cv a n=L at*;have HL:=I hL;have HI:=I hi;have HZ:=I hz0;have eI:=I hz1;have eJ:=I hz2;clear hL hi hz0 hz1 hz2;have hat:a<=a+n:=by omega
 go_enter func200,ntmps200;go_wp2_with fail;clear d1 d2 d3 d4 d5;obtain⟨t,ht⟩:∃t,t=a+n:=⟨_,rfl⟩;have hnt:n=t-a:=by omega
 rw[<- ht]at HL O hat;subst hnt;clear ht;go_loopw [0,1,6] (λp q b wr=>∃(x:Int) (ab8:List (Int×Int)),p=.int .i64 x/\q=.int .i64 (t-x)/\0<=x/\x<=t/\Hid (ab8++cv x (t-x)=L)/\wr.ownsRow w.heap.size 291 2 b ab8.length (flat ab8)/\Below w.heap.size w wr/\Hid (ab8=[]->b=.slice none 0 0)) (λ_ q _ _=>(intOf q).toNat)
 case atStart=>exact⟨a,[],rfl,rfl,h0,by omega,HL,Ξ _ _ _ _,γ _ _,λ_=>rfl⟩
 case round =>
  obtain⟨x,ab8,rfl,rfl,x0,xt,hD,hown,J,hnil⟩:=hrel;by_cases hlt:x<t
  ·have pV:ab8.length<=256:=by
    have:=ba List.length (Z hD);simp at this;omega
   go_wp2_with fail;go_loop [7] (λk=>∃j:Int,0<=j/\j<=6/\Hid (upto x (t-x) j)/\k=.int .i64 j) (λk=>6-(intOf k).toNat);case atStart=>exact⟨0,by omega,by omega,tE _ _,rfl⟩
   case round =>
    obtain⟨j,j0,j6,hu,rfl⟩:=hrel;by_cases K:j<=5/\cond x (t-x) (j+1)=true
    ·obtain⟨j5,K⟩:=K;have HC:=I K;simp only[cond,eG,dh]at K;obtain⟨ha,hs⟩:=K;have hr:=tH x (j+1);rw[ha]at hr;have hp:=cy (j+1);have HP:=λw=>I (iN (j+1) w (by omega) (by omega));clear ha;generalize pw (j+1)=d at*;go_wp2_with fail;refine(Z (HP _)).mono ?_;rintro ev w3⟨rfl,rfl⟩;go_wp2_with fail;refine(Z (HP _)).mono ?_;rintro ev w4⟨rfl,rfl⟩;go_wp2_with fail;go_round;case rel=>exact⟨j+1,by omega,by omega,tF (Z hu) (Z HC),rfl⟩
     case measure=>simp[intOf];omega
    ·have HW:=I (GL (Z hu) j0 j6 (by
      by_cases h6:j=6
      ·exact ε h6
      ·right;have:=λh=>K ⟨by omega,h⟩;simpa using this))
     by_cases h6:j=6
     ·have c6:decide (j<6)=false:=by simp;omega
      clear K h6;have hw:=iw x (t-x) (by omega);have hp:=cy (wid x (t-x));have xc:=lB (wid x (t-x)) hw.1 hw.2.1;have HP:=λw=>I (iN (wid x (t-x)) w hw.1 hw.2.1);have HS:=λv' w1 o G O h3=>I (nP (L:=L) (v':=v') (w1:=w1) (o:=o) hlt (Z hD) hown J G O h3);have OE:=Z HW;rw[OE]at hw hp xc HP HS;clear OE;obtain⟨k0,k6,_,kr⟩:=hw;generalize pw j=d at*;have sz:=J.size;go_wp2_with (at_builtin;refine Ω _ rfl (.tmp 49) (.tmp 53) 322 rfl w.heap.size 291 i0 (.agg #[.int .i64 0,.int .i64 0]) 2 16 underlying322 (Z HI) (Z HZ) (Z eI) (Z eJ) rfl (by decide) _ _ _ rfl (hown.alloc _) ⟨wr.heap.size,0,none⟩ 1 1 [.int .i64 x,.int .i64 j] rfl rfl (pW _ x j) (xe x j) (by unfold maxLen;omega) (by omega) (by simp;omega) ?_);intro v' w1 hown' hgrow kP;have R:=I ((Z (HS v' w1 _ hown' hgrow (by simpa using kP))));clear hown' hgrow kP hown J sz;go_wp2_with fail;refine(Z (HP _)).mono ?_;rintro ev w3⟨rfl,rfl⟩;go_wp2_with fail;refine(Z (HP _)).mono ?_;rintro ev w4⟨rfl,rfl⟩;go_wp2_with fail;go_roundw;case rel =>
       have R:=Z R;exact⟨x+d,ab8++[(x,j)],rfl,by go_num,by omega,by omega,R.1,R.2.1,R.2.2.1,R.2.2.2⟩
      case measure=>simp[intOf];omega
     ·have hc2:cond x (t-x) (j+1)=false:=by
       have:=λh=>K ⟨by omega,h⟩;simpa using this
      clear K;have hr:=tH x (j+1);have Cl:=cy (j+1);have OG:=λw=>I (iN (j+1) w (by omega) (by omega));by_cases ha:al x (j+1)=true
      ·rw[ha]at hr;have hs:¬pw (j+1)<=t-x:=by simpa[cond,ha]using hc2
       clear hc2 ha;generalize pw (j+1)=dd at*;go_wp2_with fail;refine(Z (OG _)).mono ?_;rintro ev w3⟨rfl,rfl⟩;go_wp2_with fail;refine(Z (OG _)).mono ?_;rintro ev w4⟨rfl,rfl⟩;clear OG;have hw:=iw x (t-x) (by omega);have hp:=cy (wid x (t-x));have xc:=lB (wid x (t-x)) hw.1 hw.2.1;have HP:=λw=>I (iN (wid x (t-x)) w hw.1 hw.2.1);have HS:=λv' w1 o G O h3=>I (nP (L:=L) (v':=v') (w1:=w1) (o:=o) hlt (Z hD) hown J G O h3);have OE:=Z HW;rw[OE]at hw hp xc HP HS;clear OE;obtain⟨k0,k6,_,kr⟩:=hw;generalize pw j=d at*;have sz:=J.size;go_wp2_with (at_builtin;refine Ω _ rfl (.tmp 49) (.tmp 53) 322 rfl w.heap.size 291 i0 (.agg #[.int .i64 0,.int .i64 0]) 2 16 underlying322 (Z HI) (Z HZ) (Z eI) (Z eJ) rfl (by decide) _ _ _ rfl (hown.alloc _) ⟨w4.heap.size,0,none⟩ 1 1 [.int .i64 x,.int .i64 j] rfl rfl (pW _ x j) (xe x j) (by unfold maxLen;omega) (by omega) (by simp;omega) ?_);intro v' w1 hown' hgrow kP;have R:=I ((Z (HS v' w1 _ hown' hgrow (by simpa using kP))));clear hown' hgrow kP hown J sz;go_wp2_with fail;refine(Z (HP _)).mono ?_;rintro ev w3⟨rfl,rfl⟩;go_wp2_with fail;refine(Z (HP _)).mono ?_;rintro ev w4⟨rfl,rfl⟩;go_wp2_with fail;go_roundw;case rel =>
        have R:=Z R;exact⟨x+d,ab8++[(x,j)],rfl,by go_num,by omega,by omega,R.1,R.2.1,R.2.2.1,R.2.2.2⟩
       case measure=>simp[intOf];omega
      ·rw[show al x (j+1)=false by simpa using ha]at hr;clear hc2 ha;generalize pw (j+1)=dd at*;go_wp2_with fail;refine(Z (OG _)).mono ?_;rintro ev w3⟨rfl,rfl⟩;clear OG;have hw:=iw x (t-x) (by omega);have hp:=cy (wid x (t-x));have xc:=lB (wid x (t-x)) hw.1 hw.2.1;have HP:=λw=>I (iN (wid x (t-x)) w hw.1 hw.2.1);have HS:=λv' w1 o G O h3=>I (nP (L:=L) (v':=v') (w1:=w1) (o:=o) hlt (Z hD) hown J G O h3);have OE:=Z HW;rw[OE]at hw hp xc HP HS;clear OE;obtain⟨k0,k6,_,kr⟩:=hw;generalize pw j=d at*;have sz:=J.size;go_wp2_with (at_builtin;refine Ω _ rfl (.tmp 49) (.tmp 53) 322 rfl w.heap.size 291 i0 (.agg #[.int .i64 0,.int .i64 0]) 2 16 underlying322 (Z HI) (Z HZ) (Z eI) (Z eJ) rfl (by decide) _ _ _ rfl (hown.alloc _) ⟨w3.heap.size,0,none⟩ 1 1 [.int .i64 x,.int .i64 j] rfl rfl (pW _ x j) (xe x j) (by unfold maxLen;omega) (by omega) (by simp;omega) ?_);intro v' w1 hown' hgrow kP;have R:=I ((Z (HS v' w1 _ hown' hgrow (by simpa using kP))));clear hown' hgrow kP hown J sz;go_wp2_with fail;refine(Z (HP _)).mono ?_;rintro ev w3⟨rfl,rfl⟩;go_wp2_with fail;refine(Z (HP _)).mono ?_;rintro ev w4⟨rfl,rfl⟩;go_wp2_with fail;go_roundw;case rel =>
        have R:=Z R;exact⟨x+d,ab8++[(x,j)],rfl,by go_num,by omega,by omega,R.1,R.2.1,R.2.2.1,R.2.2.2⟩
       case measure=>simp[intOf];omega
  ·have Lv:x=t:=by omega
   have UO:ab8=L:=by
    have:=Z hD;rw[zH _ _ (by omega)]at this;simpa using this
   have xd:wr.ownsRow w.heap.size 291 2 u6 L.length (flat L)/\(L=[]->u6=.slice none 0 0):=by rw[<- UO];exact⟨hown,Z hnil⟩
   have HF:=I xd;have hle:decide (0<t-x)=false:=by simp;omega
   clear xd UO hown hnil hD Lv;go_wp2_with fail;go_ret2;exact⟨_,rfl,(Z HF).1,J,(Z HF).2⟩
end Fr
open Go.Sort Go.Shelf
namespace Bd
open Fr
theorem QL (m:Nat):AnyZI.SortsIn prog pU Fence.wide m :=
 ⟨λblk off cap Q W hH hblk hsz=>callsIn_wide.2 (AnyM.slices_Sort_int OD blk off cap Q W hH hblk hsz),
 λp cap W=>callsIn_wide.2 (AnyM.slices_Sort_int_none OD p cap W)⟩
theorem LH (mb:Option Nat)(W:World):Calls prog 281 #[.map mb] W λe w'=>e=.returned (.func (.func 292) #[] #[.pointer (some ⟨W.heap.size,0,none⟩)])/\w'=W.alloc (.cells #[.map mb] 325):=
 (callsIn_wide (n:=5)).1 (AnyZI.keys_in OA Fence.wide 5 trivial rfl mb W)
theorem Ej {Q:List Int}{L:List Bl}(h:Q.Perm (intKeys (qP L)))(hs:pP L):Q.mergeSort (λx y=>decide (x<=y))=L.map (·.1):=by
 rw[w_]at h;rw[show Q.mergeSort (λx y=>decide (x<=y))=(L.map (·.1)).mergeSort (λx y=>decide (x<=y))from mergeSort_of_perm_i h];exact List.mergeSort_of_pairwise (by
  rw[List.pairwise_map];exact hs.imp (λh=>by simp;omega))
theorem Ek (m:Nat)(L:List Bl)(w:World)(h:Mp w m L):
  Calls prog 105 #[.func (.func 292) #[] #[.pointer (some ⟨w.heap.size,0,none⟩)]] (w.alloc (.cells #[.map (some m)] 325)) λe w'=>∃v,e=.returned v/\w'.ownsRow w.heap.size 3 1 v L.length (L.map λx=>.int .i64 x.1)/\(L=[]->v=.slice none 0 0)/\Below w.heap.size w w':=by
 have hown:=h.own;have hl:=h.len;have hbl:=hown.lt;have sG:Maps.size (qP L)<=maxLen:=by rw[nM];unfold maxLen;omega
 have hbytes:Maps.size (qP L)*8<=140737488355328:=by rw[nM];omega
 have hseq:SeqGives Fence.wide 2 prog 292 #[.pointer (some ⟨w.heap.size,0,none⟩)] encZ (λQ=>Q.Perm (intKeys (qP L))) (Maps.size (qP L)) (w.alloc (.cells #[.map (some m)] 325)):=
  AnyZI.keys_gives (ρ:=tG) {OA with} Fence.wide _ trivial rfl (by omega) w.heap.size m L.length (qP L) _ (by simp) (by simp) (by
   obtain⟨es,clock,J,Ft,hs,hD⟩:=hown;exact⟨es,clock,(Below.heap_alloc _ _ m hbl).trans J,Ft,hs,hD⟩)
 have cS:=AnyZI.sorted_in Lu Fence.wide 5 trivial trivial trivial trivial rfl (by omega) (QL _) (fy func178 (by kernel_rfl) rfl) 292 #[.pointer (some ⟨w.heap.size,0,none⟩)] trivial (fy func292 (by kernel_rfl) rfl) _ _ sG hbytes _ hseq;change CallsIn _ _ prog 105 _ _ _ at cS;refine((callsIn_wide (n:=5)).1 cS).mono ?_;rintro e w'⟨v,Q,rfl,hS,hrow,hnil,J⟩;have e1:=Ej hS h.QC;have e2:Q.length=L.length:=by have:=hS.length_eq;rw[w_]at this;simpa using this
 rw[e1,e2]at hrow;refine⟨v,rfl,?_,λhL=>hnil.2 (by rw[hL]at e2;exact bf.1 e2),((γ _ w).alloc (ζ _) _).trans (J.mono (by simp))⟩;have:=ownsRow_base_a hrow (show w.heap.size<=_ by simp);rw[List.map_map]at this;exact this
theorem El (L:List Bl)(j:Nat)(h:j<L.length):flat (L.take (j+1))=flat (L.take j)++[.int .i64 (L[j]).1,.int .i64 (L[j]).2]:=by
 rw[aL h,dP]
theorem Em (m:Nat)(L:List Bl)(w:World)(h:Mp w m L):
  Calls prog 258 #[.map (some m)] w λev w'=>∃v,ev=.returned v/\w'.ownsRow w.heap.size 291 2 v L.length (flat L)/\(L=[]->v=.slice none 0 0)/\Below w.heap.size w w':=by
 have hl:=h.len;obtain⟨i0,hi,hz0,hz1,hz2⟩:=aY oU;have HI:=I hi;have HZ:=I hz0;have eI:=I hz1;have eJ:=I hz2;have HK:=I (LH (some m) w);have HS:=I (Ek m L w h);clear hi hz0 hz1 hz2;have HM:=I h;clear h;go_enter func258,ntmps258;go_wp2_with fail;refine(Z HK).mono ?_;rintro ev w9⟨rfl,rfl⟩;go_wp2_with fail;refine(Z HS).mono ?_;rintro ev w1⟨v,rfl,hrow,hnil,J⟩;have M1:=I ((Z HM).b J);have hz:=J.size;have HB:=I J;clear J HM HS HK;by_cases hL:L=[]
 ·obtain rfl:=hnil hL;subst hL;go_wp2;refine bO 1 ?_;rw[cW];go_wp2;go_ret;exact⟨_,rfl,Ξ _ _ _ _,rfl,Z HB⟩
 ·rcases hrow.2 with⟨_,h0⟩|⟨g,cap,cur,rfl,hg0,hg,hle,gB,hcs,hx⟩
  ·exact absurd (bf.1 h0) hL
  ·have hlt:g<w1.heap.size:=by
    rcases bC g w1.heap.size with h'|h'
    ·exact h'
    ·rw[cx h']at hg;cases hg
   have K:Hid (∀j,j<L.length->w1.cell? ⟨g,j,none⟩=some (.int .i64 (L.getD j (0,0)).1)):=λj E=>by
    have:=hrow.cellAt j (by simpa using E);rw[this];simp[List.getD_eq_getElem?_getD,E]
   unfold maxLen at gB;have HL:=I hL;clear hx hcs hg hrow hnil hL;generalize hn:L.length=n at*;go_wp2;go_loopw [3,10] (λb i wr=>∃j:Nat,j<=n/\i=.int .i64 j/\wr.ownsRow w1.heap.size 291 2 b j (flat (L.take j))/\Below w1.heap.size w1 wr/\Hid (j=0->b=.slice none 0 0)) (λ_ i _=>n-(intOf i).toNat)
   case atStart=>exact⟨0,Γ _,rfl,Ξ _ _ _ _,γ _ _,λ_=>rfl⟩
   case round =>
    obtain⟨j,E,rfl,hown,hbr,_⟩:=hrel;by_cases pS:j<n
    ·have qm:j<L.length:=by omega
     have Yz:=(hbr.cell (p:=⟨g,j,none⟩) hlt).trans (Z K j pS);have hM:=((Z M1).b hbr).own;have hg1:L.getD j (0,0)=L[j]:=by simp[List.getD_eq_getElem?_getD,qm]
     have hr:=(Z M1).Oy L[j] (aO qm);have LI:=I (λz=>GS (Z M1).QC (aO qm) z);have htf:=I (El L j qm);rw[hg1]at Yz;clear hg1;generalize L[j]=x at*;obtain⟨x1,x2⟩:=x;simp only at Yz hr;have wx:=iO hr.1 hr.2.1;have wx2:=I (iO hr.2.2.1 (by omega:x2<256));have sz:=hbr.size;go_wp2_with (first
      |(at_lookup;refine wpList_lookup_own_int _ rfl _ _ 325 rfl 3 3 .i64 law underlying325 underlying3 (UM _) m L.length _ rfl hM _ _ rfl (keyOf_int_mk underlying3 wx) ?_;intro c hat hwc)
      |(at_builtin;refine Ω _ rfl (.tmp 14) (.tmp 20) 322 rfl w1.heap.size 291 i0 (.agg #[.int .i64 0,.int .i64 0]) 2 16 underlying322 (Z HI) (Z HZ) (Z eI) (Z eJ) rfl (by decide) _ _ _ rfl (hown.alloc _) ⟨wr.heap.size,0,none⟩ 1 1 [.int .i64 x1,.int .i64 c] rfl rfl (pW _ x1 c) (xe x1 c) (by unfold maxLen;omega) (by omega) (by simp;omega) ?_;intro v' w5 hown' hgrow kP))
     have hc2:c=x2:=by
      have:=(Z LI) (.lit (.int .i64 0));rw[this]at hat;simpa using hat.symm
     subst hc2;go_roundw;case rel=>exact⟨j+1,by omega,by go_num,by rw[Z htf];simpa using hown',(χ hbr _).grown hgrow (by simp;omega) (bL hown),λh=>by omega⟩
     case measure=>simp[intOf];omega
    ·have kq:j=n:=by omega
     subst kq;have e1:L.take j=L:=by rw[<- hn];exact b_
     rw[e1]at hown;have HO:=I hown;clear hown e1;go_wp2;go_ret;refine⟨_,rfl,?_,λh=>?_,(Z HB).trans (hbr.mono hz)⟩
     ·rw[hn];exact ownsRow_base_a (Z HO) hz
     ·exact absurd h (Z HL)
end Bd
end Go.Proofs.YtcbmfakjfoggaaaGreatDoor
namespace Go.Proofs.YtcbmfakjfoggaaaGreatDoor
open Go.Maps _root_.Go.Proofs.Tryz Go.RowKit
namespace Bd
open Fr
variable {N o:Int}{F' L LA LB T' aca:List Bl}{w w':World}{A B F fm g:Nat}{p:Addr}{v:Value}{t:TypeId}
def ptr (b:Nat):Value:=.pointer (some ⟨b,0,none⟩)
theorem Cm (b fm F:Nat)(N:Int)(aca T:List Bl)(w:World)(h:jX w b fm F N aca T):
  Calls prog 225 #[ptr b] w λev w'=>∃v,ev=.returned v/\w'.ownsRow w.heap.size 291 2 v aca.length (flat aca)/\(aca=[]->v=.slice none 0 0)/\Below w.heap.size w w':=by
 have c1:=h.c1;have H:=I (Em fm aca w h.f);clear h;unfold ptr;go_enter func225,ntmps225;go_wp2_with fail;refine(Z H).mono ?_;rintro ev w1⟨v,rfl,G,O,h3⟩;go_wp2_with fail;go_ret;exact⟨_,rfl,G,O,h3⟩
theorem En (fv:Value)(w:World):Calls prog 257 #[.slice none 0 0,fv] w λev w'=>ev=.returned (.int .i64 (-1))/\w'=w:=by
 go_enter func257,ntmps257;go_wp2;refine bO 1 ?_;rw[cW];go_wp2;go_ret;exact⟨rfl,rfl⟩
theorem zP (fv:Value)(w:World):Calls prog 293 #[.slice none 0 0,fv] w λev w'=>ev=.returned (.slice none 0 0)/\w'=w:=by
 have H:=λw=>I (En fv w);have qT:((-1:Int) == -1)=true:=rfl;go_enter func293,ntmps293;go_wp2_with fail;refine(Z (H _)).mono ?_;rintro ev w1⟨rfl,rfl⟩;go_wp2;go_ret;exact⟨rfl,rfl⟩
theorem zQ (v:Value)(L:List Bl)(B cb:Nat)(o:Int)(w:World)(hrow:w.ownsRow B 291 2 v L.length (flat L))(hnil:L=[]->v=.slice none 0 0)(hl:L.length<=256)(hB:B<=w.heap.size)(K:w.cell? ⟨cb,0,none⟩=some (.int .i64 o))(hlt:cb<B):
  Calls prog 293 #[v,.func (.func 294) #[] #[.pointer (some ⟨cb,0,none⟩)]] w λev w'=>Below B w w' /\
   ∃p c,ev=.returned (.slice p (L.filter (λx=>decide (o<=x.2))).length c)/\(L.filter (λx=>decide (o<=x.2))≠[]->∃g,p=some ⟨g,0,none⟩/\Row w' g (L.filter (λx=>decide (o<=x.2)))):=by
 by_cases hL:L=[]
 ·rw[hnil hL,hL];refine(zP _ w).mono ?_;rintro ev w'⟨rfl,rfl⟩;exact⟨γ _ _,none,0,rfl,λh=>absurd rfl h⟩
 ·obtain⟨g,cap,rfl,hg,G,_,hr⟩:=oQ hrow hL;refine(Eb L g cap cb o w hr hl G K (by omega) (by omega)).mono ?_;rintro ev w'⟨D,M,rfl,rfl,hM⟩;exact⟨D.below hg hg hB,_,_,rfl,λ_=>⟨g,rfl,hM⟩⟩
def fit (o:Int)(aca:List Bl):Option Bl :=
 if aca.filter (λx=>decide (o<=x.2))=[]then none else some (pk (aca.filter (λx=>decide (o<=x.2))) ((aca.filter (λx=>decide (o<=x.2))).length-1))
def Eo (o:Int)(aca:List Bl):Value:=match fit o aca with
 |none=>.tuple #[fJ 0 0,.bool false]
 |some x=>.tuple #[fJ x.1 x.2,.bool true]
theorem QM (o:Int)(b fm F:Nat)(N:Int)(aca T:List Bl)(w:World)(h:jX w b fm F N aca T):
  Calls prog 282 #[ptr b,.int .i64 o] w λev w'=>ev=.returned (Eo o aca)/\Below w.heap.size w w':=by
 have hlen:=h.f.len;have H1:=I (Cm b fm F N aca T _ ((h.a (.cells #[.int .i64 o] 3)).a (bV 0 0)));have qo:(aca.filter (λx=>decide (o<=x.2))).length<=256:=σ (List.length_filter_le _ _) hlen;clear h;have HF:Hid (Eo o aca=if aca.filter (λx=>decide (o<=x.2))=[]then .tuple #[fJ 0 0,.bool false]else .tuple #[fJ (pk (aca.filter (λx=>decide (o<=x.2))) ((aca.filter (λx=>decide (o<=x.2))).length-1)).1 (pk (aca.filter (λx=>decide (o<=x.2))) ((aca.filter (λx=>decide (o<=x.2))).length-1)).2,.bool true]):=by
  show Eo o aca=_;unfold Eo fit;by_cases c:aca.filter (λx=>decide (o<=x.2))=[]
  ·rw[af c,af c]
  ·rw[ai c,ai c]
 rw[Z HF];generalize hMF:aca.filter (λx=>decide (o<=x.2))=M at*;have HMF:=I hMF;clear HF hMF;unfold ptr at*;go_enter func282,ntmps282;go_wp2_with fail;refine(Z H1).mono ?_;rintro ev w1⟨v,rfl,G,O,h3⟩;have sz:=h3.size;simp at sz;have hco:w1.cell? ⟨w.heap.size,0,none⟩=some (.int .i64 o):=(h3.cell (p:=⟨w.heap.size,0,none⟩) (by simp;omega)).trans (((χ (γ _ (w.alloc (.cells #[.int .i64 o] 3))) _).cell (p:=⟨w.heap.size,0,none⟩) (by simp)).trans (by simp));have B1:Below w.heap.size w w1:=(χ (χ (γ _ _) _) _).trans (h3.mono (by simp;omega));have X1:Bx w1 (w.heap.size+1) (0,0):=by have:=(ix (w.alloc (.cells #[.int .i64 o] 3)) (0,0)).b h3;simpa using this
 have H2:=I (zQ v aca _ w.heap.size o w1 G O hlen h3.size hco (by simp;omega));clear G O h3 H1 hco;go_wp2_with fail;refine(Z H2).mono ?_;rintro ev w2⟨b2,p,c,rfl,hM⟩;rw[show((w.alloc (.cells #[.int .i64 o] 3)).alloc (bV 0 0)).heap.size=w.heap.size+2 by simp]at b2;have X2:Bx w2 (w.heap.size+1) (0,0):=⟨(b2.cell (p:=⟨w.heap.size+1,0,none⟩) (by simp only;omega)).trans X1.c0,(b2.cell (p:=⟨w.heap.size+1,1,none⟩) (by simp only;omega)).trans X1.c1,(b2.frozen (p:=⟨w.heap.size+1,0,none⟩) (by simp only;omega)).trans X1.f0,(b2.frozen (p:=⟨w.heap.size+1,1,none⟩) (by simp only;omega)).trans X1.f1,ι X1.lt b2.size⟩;have B2:Below w.heap.size w w2:=B1.trans (b2.mono (by omega));rw[Z HMF]at hM ⊢;clear H2 b2 B1 X1;have p0:=X2.c0;have p1:=X2.c1;have g0:=X2.f0;have g1:=X2.f1;simp only at p0 p1;by_cases K:M=[]
 ·subst K;have hz:(((0:Nat):Int)==0)=true:=rfl;simp only[aA]at*;clear hM;go_wp2;exact Θ (v:=.tuple #[fJ 0 0,.bool false]) (by simp[results,results282,go_sem,p0,p1]) rfl ⟨rfl,(B2.setCell (by simp) _).setCell (by simp) _⟩
 ·obtain⟨g,rfl,hr⟩:=hM K;have jw:0<M.length:=aU.2 K;have hz:((M.length:Int)==0)=false:=by simp;exact K
  have H3:=QH M g c w2 hr qo jw;obtain⟨x,hx⟩:∃x,x=pk M (M.length-1):=⟨_,rfl⟩;rw[<- hx]at H3;have HX:=I hx;have HC:=I K;have H3:=I H3;clear hx hM K hr jw;obtain⟨x1,x2⟩:=x;go_wp2_with fail;refine(Z H3).mono ?_;rintro ev w3⟨rfl,b3⟩;have X3:=X2.b b3;have s0:=X3.c0;have s1:=X3.c1;have t0:=X3.f0;have t1:=X3.f1;simp only at s0 s1;clear p0 p1 g0 g1;go_wp2_with fail;exact Θ (v:=.tuple #[fJ x1 x2,.bool true]) (by simp[results,results282,go_sem,s0,s1]) rfl ⟨by rw[<- Z HX],((bW B2 b3).setCell (by simp) _).setCell (by simp) _⟩
theorem G0 {x:Bl}:∀{L:List Bl} {j:Nat},(∀i (_:i<j) (h:i<L.length),L[i].1<x.1)->j<=L.length->(∀h:j<L.length,x.1<L[j].1)->ins x L=L.take j++x::L.drop j
 |[],j,_,E,_=>by
  obtain rfl:j=0:=by simpa using E
  rfl
 |y::l,0,_,_,O=>by
  have:=O (by simp);simp only[fH]at this;unfold ins;rw[af this];rfl
 |y::l,j+1,G,E,O=>by
  have hy:=G 0 (by omega) (by simp);simp only[fH]at hy;unfold ins;rw[ai (by omega),ai (by omega),G0 (j:=j) (λi hi h=>by have:=G (i+1) (by omega) (by simpa using h);simpa using this) (by simpa using E) (λh=>by have:=O (by simpa using h);simpa using this)];rfl
theorem tI:∀{L:List Bl} {k:Nat} (_:pP L) (h:k<L.length),L.take k++L.drop (k+1)=del L[k].1 L
 |[],_,_,h=>by simp at h
 |y::l,0,hs,_=>by
  rw[ft]at hs;simp only[List.take_zero,aT,List.drop_succ_cons,List.drop_zero,fH];show l=List.filter _ (y::l);rw[bZ];simp only[bne_self_eq_false,gU,if_false];exact(lC (a:=y.1) (λz hz=>by have:=hs.1 z hz;omega)).symm
 |y::l,k+1,hs,h=>by
  rw[ft]at hs;have D:k<l.length:=by simpa using h
  have:=hs.1 l[k] (aO D);simp only[List.take_succ_cons,List.drop_succ_cons,List.getElem_cons_succ,cJ];rw[tI hs.2 D];show _=List.filter _ (y::l);rw[bZ,af (by simp only[bne_iff_ne,ne_eq];omega)];rfl
def dK (o:Int)(L:List Bl):Nat->Int
 |0=>-1
 |j+1=>if o<=(L.getD j (0,0)).2/\(dK o L j<0\/(L.getD j (0,0)).2<(L.getD (dK o L j).toNat (0,0)).2)then j else dK o L j
theorem jZ (o:Int)(L:List Bl):∀j,-1<=dK o L j/\dK o L j<j
 |0=>by simp[dK]
 |j+1=>by
  have:=jZ o L j;unfold dK;split<;>omega
def oV (o:Int)(L:List Bl):List Bl:=L.filter (λx=>decide (o<=x.2))
theorem tJ (M:List Bl)(y:Bl):∀j,j<M.length->pk (M++[y]) j=pk M j
 |0,h=>by unfold pk;rw[getD_lt (by simp),getD_lt h,List.getElem_append_left h]
 |j+1,h=>by
  unfold pk;rw[tJ M y j (by omega),getD_lt (by simp;omega),getD_lt h,List.getElem_append_left h]
theorem uW (o:Int)(L:List Bl):∀j,j<=L.length->(dK o L j<0->oV o (L.take j)=[])/\(0<=dK o L j->oV o (L.take j)≠[]/\L.getD (dK o L j).toNat (0,0)=pk (oV o (L.take j)) ((oV o (L.take j)).length-1))
 |0,_=>by simp[dK,oV]
 |j+1,h=>by
  obtain⟨G,O⟩:=uW o L j (by omega);have E:j<L.length:=by omega
  have hr:=jZ o L j;have ht:oV o (L.take (j+1))=oV o (L.take j)++oV o [L[j]]:=by
   unfold oV;rw[aL E,cE]
  have hg:L.getD j (0,0)=L[j]:=getD_lt E;unfold dK;rw[hg,ht];by_cases ho:o<=L[j].2
  ·have hf:oV o [L[j]]=[L[j]]:=by simp[oV,ho]
   rw[hf];have hl:(oV o (L.take j)++[L[j]]).length-1=(oV o (L.take j)).length:=by simp
   rw[hl];by_cases J:dK o L j<0
   ·rw[af ⟨ho,ε J⟩,G J];refine⟨λh=>by omega,λ_=>⟨by simp,?_⟩⟩;rw[show((j:Int)).toNat=j by omega,hg];rfl
   ·obtain⟨q1,q2⟩:=O (by omega);have jw:=aU.2 q1;obtain⟨m,hm⟩:∃m,(oV o (L.take j)).length=m+1:=⟨(oV o (L.take j)).length-1,by omega⟩;have iy:pk (oV o (L.take j)++[L[j]]) (oV o (L.take j)).length=if L[j].2<(L.getD (dK o L j).toNat (0,0)).2 then L[j]else L.getD (dK o L j).toNat (0,0):=by
     rw[q2,hm];show(if((oV o (L.take j)++[L[j]]).getD (m+1) (0,0)).2<(pk (oV o (L.take j)++[L[j]]) m).2 then _ else _)=_;rw[tJ _ _ m (by omega),getD_lt (by simp;omega),List.getElem_append_right (by omega)];simp[hm]
    by_cases hlt:L[j].2<(L.getD (dK o L j).toNat (0,0)).2
    ·rw[af ⟨ho,δ hlt⟩,iy,af hlt];exact⟨λh=>by omega,λ_=>⟨by simp,by rw[show((j:Int)).toNat=j by omega,hg]⟩⟩
    ·rw[ai (by intro c;rcases c.2 with c|c;exact J c;exact hlt c),iy,ai hlt];exact⟨λh=>absurd h J,λ_=>⟨by simp,rfl⟩⟩
  ·have hf:oV o [L[j]]=[]:=by simp[oV,ho]
   rw[ai (λc=>ho c.1),hf,dF];exact⟨G,O⟩
theorem nQ (h:dK o L L.length<0):fit o L=none:=by
 have:=(uW o L L.length (ζ _)).1 h;rw[b_]at this;show(if oV o L=[]then none else some (pk (oV o L) ((oV o L).length-1)))=none;rw[af this]
theorem iP (h:0<=dK o L L.length):∃J:(dK o L L.length).toNat<L.length,fit o L=some L[(dK o L L.length).toNat]:=by
 obtain⟨G,O⟩:=(uW o L L.length (ζ _)).2 h;rw[b_]at G O;have hr:=jZ o L L.length;have J:(dK o L L.length).toNat<L.length:=by omega
 refine⟨J,?_⟩;show(if oV o L=[]then none else some (pk (oV o L) ((oV o L).length-1)))=_;rw[ai G,<- getD_lt J,O]
theorem m_ (hr:Row w g L):∀j u,(flat L)[j]?=some u->w.cell? ⟨g,j,none⟩=some u:=by
 intro j u E;have hlt:j<L.length*2:=by
  have:=(ν.1 E).1;rw[cd]at this;exact this
 have hi:j/2<L.length:=by omega
 have hf:=gO L (j/2) hi;have QN:=hr.c (j/2) hi;rw[au,ξ hi,bY]at QN;rcases Nat.mod_two_eq_zero_or_one j with h0|G
 ·have e:j/2*2=j:=by omega
  have e2:2*(j/2)=j:=by omega
  rw[e]at QN;rw[e2]at hf;rw[QN.1,<- E,hf.1]
 ·have e:j/2*2+1=j:=by omega
  have e2:2*(j/2)+1=j:=by omega
  rw[e]at QN;rw[e2]at hf;rw[QN.2,<- E,hf.2]
theorem bM (a b:List Bl):flat (a++b)=flat a++flat b:=by simp[flat]
theorem Ep (L:List Bl)(k:Nat)(j:Nat)(u:Value)(h:(flat (L.take k))[j]?=some u):(flat L)[j]?=some u:=by
 have hlt:=(ν.1 h).1;have e:flat L=flat (L.take k)++flat (L.drop k):=by rw[<- bM,bS]
 rw[e,ar hlt];exact h
theorem Er (L:List Bl)(k:Nat)(D:k<=L.length)(j:Nat)(u:Value)(h:(flat (L.drop k))[j]?=some u):(flat L)[k*2+j]?=some u:=by
 have e:flat L=flat (L.take k)++flat (L.drop k):=by rw[<- bM,bS]
 have hl:(flat (L.take k)).length=k*2:=by rw[cd,cI,Nat.min_eq_left D]
 rw[e,aq (by omega),hl,show k*2+j-k*2=j from by omega];exact h
theorem fL (L:List Bl):∀u∈flat L,u.oneCell'=true:=by
 intro u hu;simp only[flat,eE]at hu;obtain⟨x,_,hx⟩:=hu;simp at hx;rcases hx with rfl|rfl<;>rfl
theorem eZ (g o j:Nat):((⟨g,o,none⟩:Addr).add j)=⟨g,o+j,none⟩:=by
 by_cases h:j=0
 ·subst h;simp[Addr.add]
 ·simp[Addr.add,h]
theorem tK (hr:Row w g L)(k:Nat):∀j u,(flat (L.take k))[j]?=some u->w.cell? ((⟨g,0,none⟩:Addr).add j)=some u:=λj u h=>by
 rw[eZ,bj];exact m_ hr j u (Ep L k j u h)
theorem tL (hr:Row w g L)(k:Nat)(D:k<=L.length):∀j u,(flat (L.drop k))[j]?=some u->w.cell? ((⟨g,k*2,none⟩:Addr).add j)=some u:=λj u h=>by
 rw[eZ];exact m_ hr _ u (Er L k D j u h)
theorem zR (g cap k:Nat)(L:List Bl)(w:World)(hr:Row w g L)(hl:L.length<=256)(gB:L.length<=cap)(lF:cap<=maxLen)(D:k<L.length):
  Calls prog 262 #[.slice (some ⟨g,0,none⟩) L.length cap,.int .i64 k] w λev w'=>∃v,ev=.returned v/\w'.ownsRow w.heap.size 291 2 v (L.take k++L.drop (k+1)).length (flat (L.take k++L.drop (k+1)))/\(L.take k++L.drop (k+1)=[]->v=.slice none 0 0)/\Below w.heap.size w w':=by
 obtain⟨i0,hi,hz0,hz1,hz2⟩:=aY oU;have HI:=I hi;have HZ:=I hz0;have eI:=I hz1;have eJ:=I hz2;have HR:=I hr;have sD:=hr.lt;clear hi hz0 hz1 hz2 hr;have ht:(flat (L.take k)).length=k*2:=by rw[cd,cI,Nat.min_eq_left (by omega)]
 have hd:(flat (L.drop (k+1))).length=(L.length-(k+1))*2:=by rw[cd,dW]
 have xd:(L.take k++L.drop (k+1)).length=k+(L.length-(k+1))/\flat (L.take k++L.drop (k+1))=flat (L.take k)++flat (L.drop (k+1)):=⟨by simp;omega,bM _ _⟩;have Es:=I xd;have HT:=I ht;have HD:=I hd;have Et:=I (λw1 (h:Row w1 g L)=>tK h k);have zS:=I (λw1 (h:Row w1 g L)=>tL h (k+1) (by omega));clear xd ht hd;unfold maxLen at lF;have YA:Hid (L.take k++L.drop (k+1)=[]->k=0/\L.length-(k+1)=0):=λh=>by
  have:=ba List.length h;rw[(Z Es).1]at this;simp at this;omega
 obtain⟨M,hM⟩:∃M,M=L.take k++L.drop (k+1):=⟨_,rfl⟩;rw[<- hM]at Es YA ⊢;clear hM;generalize hn:L.length=n at*;have eU:True:=trivial;by_cases K:k+1=cap
 ·subst K;have hzd:Hid (flat (L.drop (k+1))=[]):=by show _=_;rw[List.drop_of_length_le (by omega)];rfl
  go_enter func262,ntmps262;go_wp2_with (first
   |(at_builtin;have _t:=eU;refine Ω _ rfl (.tmp 6) (.tmp 9) 322 rfl w.heap.size 291 i0 (.agg #[.int .i64 0,.int .i64 0]) 2 16 underlying322 (Z HI) (Z HZ) (Z eI) (Z eJ) rfl (by decide) _ 0 [] rfl (Ξ _ _ _ _) _ _ _ (flat (L.take k)) rfl (Z HT) ((Z Et) _ (Z HR)) (fL _) (by unfold maxLen;omega) (by omega) (ζ _) ?_;intro v1 w1 o1 g1 n1;have b1:Below w.heap.size w w1:=(γ _ _).grown g1 (ζ _) (λk D=>by cases D);have R1:=I ((Z HR).b b1);have N1:=I n1;have B1:=I b1;have O1:=I o1;clear o1 g1 n1 b1 eU)
   |(at_builtin;refine Ω _ rfl (.tmp 11) (.tmp 15) 322 rfl w.heap.size 291 i0 (.agg #[.int .i64 0,.int .i64 0]) 2 16 underlying322 (Z HI) (Z HZ) (Z eI) (Z eJ) rfl (by decide) _ _ _ rfl (Z O1) _ 0 _ [] rfl rfl (by intro j u h;simp at h) (by intro u h;simp at h) (by unfold maxLen;omega) (by omega) (Z B1).size ?_;intro v2 w2 o2 g2 n2))
  go_ret;have b2:Below w.heap.size w w2:=(Z B1).grown g2 (Z B1).size (bL (Z O1));refine⟨_,rfl,?_,λh0=>?_,b2⟩
  ·rw[(Z Es).1,(Z Es).2,Z hzd,show k+(n-(k+1))=k+0 by omega];simpa using o2
  ·obtain⟨z1,z2⟩:=(Z YA) h0;exact n2.2 ⟨(Z N1).2 (by first|exact⟨rfl,z1⟩|exact⟨trivial,z1⟩),by first|rfl|trivial⟩
 ·have hlt:(k:Int)+1<cap:=by omega
  go_enter func262,ntmps262;go_wp2_with (first
   |(at_builtin;have _t:=eU;refine Ω _ rfl (.tmp 6) (.tmp 9) 322 rfl w.heap.size 291 i0 (.agg #[.int .i64 0,.int .i64 0]) 2 16 underlying322 (Z HI) (Z HZ) (Z eI) (Z eJ) rfl (by decide) _ 0 [] rfl (Ξ _ _ _ _) _ _ _ (flat (L.take k)) rfl (Z HT) ((Z Et) _ (Z HR)) (fL _) (by unfold maxLen;omega) (by omega) (ζ _) ?_;intro v1 w1 o1 g1 n1;have b1:Below w.heap.size w w1:=(γ _ _).grown g1 (ζ _) (λk D=>by cases D);have R1:=I ((Z HR).b b1);have N1:=I n1;have B1:=I b1;have O1:=I o1;clear o1 g1 n1 b1 eU)
   |(at_builtin;refine Ω _ rfl (.tmp 11) (.tmp 15) 322 rfl w.heap.size 291 i0 (.agg #[.int .i64 0,.int .i64 0]) 2 16 underlying322 (Z HI) (Z HZ) (Z eI) (Z eJ) rfl (by decide) _ _ _ rfl (Z O1) _ _ _ (flat (L.drop (k+1))) rfl (Z HD) ((Z zS) _ (Z R1)) (fL _) (by unfold maxLen;omega) (by omega) (Z B1).size ?_;intro v2 w2 o2 g2 n2))
  go_ret;have b2:Below w.heap.size w w2:=(Z B1).grown g2 (Z B1).size (bL (Z O1));refine⟨_,rfl,?_,λh0=>?_,b2⟩
  ·rw[(Z Es).1,(Z Es).2];simpa using o2
  ·obtain⟨z1,z2⟩:=(Z YA) h0;exact n2.2 ⟨(Z N1).2 (by first|exact⟨rfl,z1⟩|exact⟨trivial,z1⟩),z2⟩
theorem G8 (L:List Bl)(x:Bl)(j:Nat):flat (L.take j++x::L.drop j)=flat (L.take j)++[.int .i64 x.1,.int .i64 x.2]++flat (L.drop j):=by
 rw[bM];simp[flat]
theorem G_ (x:Bl)(w:World):
  Calls prog 263 #[.slice none 0 0,fJ x.1 x.2] w λev w'=>∃v,ev=.returned v/\w'.ownsRow w.heap.size 291 2 v (ins x []).length (flat (ins x []))/\(ins x []=[]->v=.slice none 0 0)/\Below w.heap.size w w':=by
 obtain⟨i0,hi,hz0,hz1,hz2⟩:=aY oU;have X:=ix w x;have s1:(w.alloc (bV x.1 x.2)).heap.size=w.heap.size+1:=by simp
 have B:=χ (γ w.heap.size w) (bV x.1 x.2);obtain⟨a,k⟩:=x;simp only at*;have HI:=I hi;have HZ:=I hz0;have eI:=I hz1;have eJ:=I hz2;clear hi hz0 hz1 hz2;have x0:=X.c0;have x1:=X.c1;simp only at x0 x1;obtain⟨M,hM⟩:∃M,Hid (M=ins (a,k) []):=⟨_,rfl⟩;rw[<- Z hM];go_enter func263,ntmps263;go_wp2;refine bO 1 ?_;rw[cW];go_wp2_with fail;generalize w.alloc (bV a k)=W at*;go_quiet (fail);have X:=X.b (jM (γ _ W) nq);have B:=jM B nq;clear s1;clear x0 x1;have x0:=X.c0;have x1:=X.c1;simp only at x0 x1;generalize W.drewN nq=WQ at*;go_wp2_with (first
  |(at_builtin;refine Ω _ rfl (.tmp 28) (.tmp 30) 322 rfl w.heap.size 291 i0 (.agg #[.int .i64 0,.int .i64 0]) 2 16 underlying322 (Z HI) (Z HZ) (Z eI) (Z eJ) rfl (by decide) _ 0 [] rfl (Ξ _ _ _ _) _ _ _ [.int .i64 a,.int .i64 k] rfl rfl (pW _ a k) (xe a k) (by unfold maxLen;omega) (by omega) (by have:=B.size;simp;omega) ?_;intro v1 w1 o1 g1 n1)
  |(at_builtin;refine dO rfl (.tmp 32) (.tmp 35) 322 rfl w.heap.size 291 i0 2 underlying322 (Z HI) _ _ _ rfl o1 rfl ?_))
 go_ret;have J:=(χ B _).grown g1 (by have:=B.size;simp;omega) (λk D=>by cases D);rw[Z hM];refine⟨_,rfl,?_,λh0=>absurd h0 (by unfold ins;simp),J⟩;simpa[ins,flat]using o1
theorem LJ (g cap:Nat)(L:List Bl)(x:Bl)(w:World)(hr:Row w g L)(h0:0<L.length)(hl:L.length<=256)(gB:L.length<=cap)(lF:cap<=maxLen)(hx:∀y∈L,y.1≠x.1):
  Calls prog 263 #[.slice (some ⟨g,0,none⟩) L.length cap,fJ x.1 x.2] w λev w'=>∃v,ev=.returned v/\w'.ownsRow w.heap.size 291 2 v (ins x L).length (flat (ins x L))/\(ins x L=[]->v=.slice none 0 0)/\Below w.heap.size w w':=by
 obtain⟨i0,hi,hz0,hz1,hz2⟩:=aY oU;have HI:=I hi;have HZ:=I hz0;have eI:=I hz1;have eJ:=I hz2;have X0:=I (ix w x);have B0:=I (χ (γ w.heap.size w) (bV x.1 x.2));have s0:(w.alloc (bV x.1 x.2)).heap.size=w.heap.size+1:=by simp
 have R0:=I (hr.b (χ (γ w.heap.size w) (bV x.1 x.2)));have sD:=hr.lt;have HXN:=I hx;have HR0:=I hr;clear hi hz0 hz1 hz2 hr hx;unfold maxLen at lF;obtain⟨a,k⟩:=x;simp only at X0 B0 R0 s0;obtain⟨M,hM⟩:∃M,Hid (M=ins (a,k) L):=⟨_,rfl⟩;have Gm:Hid (M≠[]):=by show M≠[];rw[Z hM];intro h;have:=nI (a,k) L;rw[h]at this;cases this
 rw[<- Z hM];generalize hn:L.length=n at*;go_enter func263,ntmps263;go_wp2_with fail;generalize w.alloc (bV a k)=W at*;go_loopw [5] (λs wr=>∃j:Nat,s=.int .i64 j/\j<=n/\Hid (∀i (_:i<j) (h:i<L.length),L[i].1<a)/\Hid (Below W.heap.size W wr)) (λs _=>n-(intOf s).toNat)
 case atStart=>exact⟨0,rfl,Γ _,λi hi=>by omega,γ _ _⟩
 case round =>
  obtain⟨j,rfl,E,jN,J⟩:=hrel;have xr:=(Z X0).b (Z J);have x0:=xr.c0;have x1:=xr.c1;simp only at x0 x1;have RR:=(Z R0).b (Z J);have hgr:=RR.lt;by_cases hgo:∃h:j<L.length,L[j].1<a
  ·obtain⟨sH,hlt⟩:=hgo;have cc:=RR.c j sH;rw[getD_lt sH]at cc;have UQ:Hid (∀i (_:i<j+1) (h:i<L.length),L[i].1<a):=λi hi h=>by
    by_cases e:i=j
    ·subst e;exact hlt
    ·exact(Z jN) i (by omega) h
   generalize L[j]=y at*;obtain⟨y1,y2⟩:=y;obtain⟨c1,c2⟩:=cc;simp only at c1 c2 hlt;have pS:j<n:=by omega
   have kq:(j:Int)<n:=by omega
   have Cn:(0:Int)<=j:=by omega
   have hd:decide (y1<a)=true:=by simpa using hlt
   clear jN xr RR;go_wp2_with fail;go_quiet (fail);go_wp2;go_roundw;case rel=>exact⟨j+1,by go_num,by omega,Z UQ,jM (Z J) _⟩
   case measure=>simp[intOf];omega
  ·have hup:∀h:j<L.length,a<L[j].1:=λh=>by
    have G:L[j].1≠a:=(Z HXN) L[j] (aO h);have O:¬L[j].1<a:=λc=>hgo ⟨h,c⟩;omega
   have Ha:=G0 (x:=(a,k)) (L:=L) (j:=j) (Z jN) (by omega) hup;have qo:=G8 L (a,k) j;rw[<- Ha,<- Z hM]at qo;have hlen:M.length=j+1+(n-j):=by rw[Z hM,Ha];simp;omega
   have HFL:=I qo;have HLEN:=I hlen;have ht:Hid ((flat (L.take j)).length=j*2):=by show _=_;rw[cd,cI,Nat.min_eq_left (by omega)]
   have hd:Hid ((flat (L.drop j)).length=(n-j)*2):=by show _=_;rw[cd,dW,hn]
   have Et:=I (λw1 (h:Row w1 g L)=>tK h j);have zS:=I (λw1 (h:Row w1 g L)=>tL h j (by omega));have hjc:(j:Int)<=cap:=by omega
   have QO:j<=cap:=by omega
   have Cn:(0:Int)<=j:=by omega
   clear Ha qo hlen jN;have Co:(∃y1 y2:Int,j<n/\wr.cell? ⟨g,j*2,none⟩=some (.int .i64 y1)/\wr.cell? ⟨g,j*2+1,none⟩=some (.int .i64 y2)/\decide (y1<a)=false)\/¬j<n:=by
    by_cases pS:j<n
    ·have sH:j<L.length:=by omega
     have cc:=RR.c j sH;rw[getD_lt sH]at cc;have:=hup sH;exact ε ⟨_,_,pS,cc.1,cc.2,by simp;omega⟩
    ·exact δ pS
   clear hgo hup;have RRH:=I RR;have Tz:=I xr;clear RR xr x0 x1;have eU:True:=trivial;have jg:True:=trivial;by_cases Yz:j=cap
   ·subst Yz;have hzd:Hid (flat (L.drop j)=[]):=by show _=_;rw[List.drop_of_length_le (by omega)];rfl
    have pS:¬j<n:=by omega
    have kq:¬(j:Int)<n:=by omega
    clear Co;have x0:=(Z Tz).c0;simp only at x0;go_wp2_with fail;go_quiet (fail);have RQ:=I ((Z RRH).b (jM (γ _ wr) nq));have XQ:=I ((Z Tz).b (jM (γ _ wr) nq));have FQ:=I (((Z B0).trans ((Z J).mono (by omega))).trans ((jM (γ _ wr) nq).mono (by have:=(Z J).size;omega)));generalize wr.drewN nq=WQ at*;go_wp2_with (first
     |(at_builtin;have _t:=eU;refine Ω _ rfl (.tmp 23) (.tmp 26) 322 rfl w.heap.size 291 i0 (.agg #[.int .i64 0,.int .i64 0]) 2 16 underlying322 (Z HI) (Z HZ) (Z eI) (Z eJ) rfl (by decide) _ 0 [] rfl (Ξ _ _ _ _) _ _ _ (flat (L.take j)) rfl (Z ht) ((Z Et) _ (Z RQ)) (fL _) (by unfold maxLen;omega) (by omega) (Z FQ).size ?_;intro v1 w1 o1 g1 n1;have bq:=(γ WQ.heap.size WQ).grown g1 (ζ _) (λk D=>by cases D);have X1:=(Z XQ).b bq;have q0:=X1.c0;have q1:=X1.c1;simp only at q0 q1;have F1:=I ((Z FQ).trans (bq.mono (Z FQ).size));have O1:=I o1;clear o1 g1 n1 bq X1 eU)
     |(at_builtin;have _t:=jg;refine Ω _ rfl (.tmp 28) (.tmp 30) 322 rfl w.heap.size 291 i0 (.agg #[.int .i64 0,.int .i64 0]) 2 16 underlying322 (Z HI) (Z HZ) (Z eI) (Z eJ) rfl (by decide) _ _ _ rfl ((Z O1).alloc _) _ _ _ [.int .i64 a,.int .i64 k] rfl rfl (pW _ a k) (xe a k) (by unfold maxLen;omega) (by omega) (by have:=(Z F1).size;simp;omega) ?_;intro v2 w2 o2 g2 n2;have F2:=I ((χ (Z F1) _).grown g2 (by have:=(Z F1).size;simp;omega) (bL (Z O1)));have O2:=I o2;clear o2 g2 n2 jg)
     |(at_builtin;refine Ω _ rfl (.tmp 32) (.tmp 35) 322 rfl w.heap.size 291 i0 (.agg #[.int .i64 0,.int .i64 0]) 2 16 underlying322 (Z HI) (Z HZ) (Z eI) (Z eJ) rfl (by decide) _ _ _ rfl (Z O2) _ 0 _ [] rfl rfl (by intro j u h;simp at h) (by intro u h;simp at h) (by unfold maxLen;omega) (by omega) (Z F2).size ?_;intro v3 w3 o3 g3 n3))
    go_ret;have b3:Below w.heap.size w w3:=(Z F2).grown g3 (Z F2).size (bL (Z O2));refine⟨_,rfl,?_,λh0=>absurd h0 (Z Gm),b3⟩;rw[Z HLEN,Z HFL,Z hzd,show j+1+(n-j)=j+1+0 by omega];simpa using o3
   ·have abq:(j:Int)<cap:=by omega
    rcases Co with⟨y1,y2,pS,c1,c2,Gi⟩|pS
    ·have kq:(j:Int)<n:=by omega
     have x0:=(Z Tz).c0;simp only at x0;go_wp2_with fail;go_quiet (fail);have RQ:=I ((Z RRH).b (jM (γ _ wr) nq));have XQ:=I ((Z Tz).b (jM (γ _ wr) nq));have FQ:=I (((Z B0).trans ((Z J).mono (by omega))).trans ((jM (γ _ wr) nq).mono (by have:=(Z J).size;omega)));generalize wr.drewN nq=WQ at*;clear c1 c2 x0;go_wp2_with (first
      |(at_builtin;have _t:=eU;refine Ω _ rfl (.tmp 23) (.tmp 26) 322 rfl w.heap.size 291 i0 (.agg #[.int .i64 0,.int .i64 0]) 2 16 underlying322 (Z HI) (Z HZ) (Z eI) (Z eJ) rfl (by decide) _ 0 [] rfl (Ξ _ _ _ _) _ _ _ (flat (L.take j)) rfl (Z ht) ((Z Et) _ (Z RQ)) (fL _) (by unfold maxLen;omega) (by omega) (Z FQ).size ?_;intro v1 w1 o1 g1 n1;have bq:=(γ WQ.heap.size WQ).grown g1 (ζ _) (λk D=>by cases D);have X1:=(Z XQ).b bq;have q0:=X1.c0;have q1:=X1.c1;simp only at q0 q1;have F1:=I ((Z FQ).trans (bq.mono (Z FQ).size));have O1:=I o1;clear o1 g1 n1 bq X1 eU)
      |(at_builtin;have _t:=jg;refine Ω _ rfl (.tmp 28) (.tmp 30) 322 rfl w.heap.size 291 i0 (.agg #[.int .i64 0,.int .i64 0]) 2 16 underlying322 (Z HI) (Z HZ) (Z eI) (Z eJ) rfl (by decide) _ _ _ rfl ((Z O1).alloc _) _ _ _ [.int .i64 a,.int .i64 k] rfl rfl (pW _ a k) (xe a k) (by unfold maxLen;omega) (by omega) (by have:=(Z F1).size;simp;omega) ?_;intro v2 w2 o2 g2 n2;have F2:=I ((χ (Z F1) _).grown g2 (by have:=(Z F1).size;simp;omega) (bL (Z O1)));have O2:=I o2;clear o2 g2 n2 jg)
      |(at_builtin;refine Ω _ rfl (.tmp 32) (.tmp 35) 322 rfl w.heap.size 291 i0 (.agg #[.int .i64 0,.int .i64 0]) 2 16 underlying322 (Z HI) (Z HZ) (Z eI) (Z eJ) rfl (by decide) _ _ _ rfl (Z O2) _ _ _ (flat (L.drop j)) rfl (Z hd) ((Z zS) _ ((Z HR0).b (Z F2))) (fL _) (by unfold maxLen;omega) (by omega) (Z F2).size ?_;intro v3 w3 o3 g3 n3))
     go_ret;have b3:Below w.heap.size w w3:=(Z F2).grown g3 (Z F2).size (bL (Z O2));refine⟨_,rfl,?_,λh0=>absurd h0 (Z Gm),b3⟩;rw[Z HLEN,Z HFL];simpa using o3
    ·have kq:¬(j:Int)<n:=by omega
     have x0:=(Z Tz).c0;simp only at x0;go_wp2_with fail;go_quiet (fail);have RQ:=I ((Z RRH).b (jM (γ _ wr) nq));have XQ:=I ((Z Tz).b (jM (γ _ wr) nq));have FQ:=I (((Z B0).trans ((Z J).mono (by omega))).trans ((jM (γ _ wr) nq).mono (by have:=(Z J).size;omega)));generalize wr.drewN nq=WQ at*;clear x0;go_wp2_with (first
      |(at_builtin;have _t:=eU;refine Ω _ rfl (.tmp 23) (.tmp 26) 322 rfl w.heap.size 291 i0 (.agg #[.int .i64 0,.int .i64 0]) 2 16 underlying322 (Z HI) (Z HZ) (Z eI) (Z eJ) rfl (by decide) _ 0 [] rfl (Ξ _ _ _ _) _ _ _ (flat (L.take j)) rfl (Z ht) ((Z Et) _ (Z RQ)) (fL _) (by unfold maxLen;omega) (by omega) (Z FQ).size ?_;intro v1 w1 o1 g1 n1;have bq:=(γ WQ.heap.size WQ).grown g1 (ζ _) (λk D=>by cases D);have X1:=(Z XQ).b bq;have q0:=X1.c0;have q1:=X1.c1;simp only at q0 q1;have F1:=I ((Z FQ).trans (bq.mono (Z FQ).size));have O1:=I o1;clear o1 g1 n1 bq X1 eU)
      |(at_builtin;have _t:=jg;refine Ω _ rfl (.tmp 28) (.tmp 30) 322 rfl w.heap.size 291 i0 (.agg #[.int .i64 0,.int .i64 0]) 2 16 underlying322 (Z HI) (Z HZ) (Z eI) (Z eJ) rfl (by decide) _ _ _ rfl ((Z O1).alloc _) _ _ _ [.int .i64 a,.int .i64 k] rfl rfl (pW _ a k) (xe a k) (by unfold maxLen;omega) (by omega) (by have:=(Z F1).size;simp;omega) ?_;intro v2 w2 o2 g2 n2;have F2:=I ((χ (Z F1) _).grown g2 (by have:=(Z F1).size;simp;omega) (bL (Z O1)));have O2:=I o2;clear o2 g2 n2 jg)
      |(at_builtin;refine Ω _ rfl (.tmp 32) (.tmp 35) 322 rfl w.heap.size 291 i0 (.agg #[.int .i64 0,.int .i64 0]) 2 16 underlying322 (Z HI) (Z HZ) (Z eI) (Z eJ) rfl (by decide) _ _ _ rfl (Z O2) _ _ _ (flat (L.drop j)) rfl (Z hd) ((Z zS) _ ((Z HR0).b (Z F2))) (fL _) (by unfold maxLen;omega) (by omega) (Z F2).size ?_;intro v3 w3 o3 g3 n3))
     go_ret;have b3:Below w.heap.size w w3:=(Z F2).grown g3 (Z F2).size (bL (Z O2));refine⟨_,rfl,?_,λh0=>absurd h0 (Z Gm),b3⟩;rw[Z HLEN,Z HFL];simpa using o3
theorem Mp.d {m:Nat}(h:Mp w m L):Mp w.drew m L:=h.blk rfl
theorem dA (h:w.cell? p=some v)(hA:Mp w A LA)(hB:Mp w B LB)(D:Kept A B w w'):w'.cell? p=some v:=by
 have hlt:=aa w p h;have ne:∀C LC,Mp w C LC->p.block≠C:=λC LC hC e=>by
  obtain⟨⟨es,clock,G,_⟩,_,_⟩:=hC;rw[<- e]at G;simp[World.cell?,G]at h
 exact(D.cell hlt (ne A LA hA) (ne B LB hB)).trans h
theorem jO (h:w.cell? p=some v)(hA:Mp w A LA):p.block≠A:=λe=>by
 obtain⟨⟨es,clock,G,_⟩,_,_⟩:=hA;rw[<- e]at G;simp[World.cell?,G]at h
theorem Bx.k {c:Nat}{x:Bl}(h:Bx w c x)(hA:Mp w A LA)(hB:Mp w B LB)(D:Kept A B w w'):Bx w' c x:=by
 have e:=D.block c h.lt (jO h.c0 hA) (jO h.c0 hB);exact⟨(η (w:=w) e).trans h.c0,(η (w:=w) e).trans h.c1,(π (w:=w) e).trans h.f0,(π (w:=w) e).trans h.f1,ι h.lt D.size⟩
theorem jX.blk {b:Nat}{T:List Bl}(h:jX w b fm F N aca T)(hs:w.heap.size<=w'.heap.size)(e1:w'.heap[b]?=w.heap[b]?)(e2:w'.heap[fm]?=w.heap[fm]?)(e3:w'.heap[F]?=w.heap[F]?):jX w' b fm F N aca T :=
 ⟨(η (w:=w) e1).trans h.c0,(η (w:=w) e1).trans h.c1,(η (w:=w) e1).trans h.c2,h.f.blk e2,h.t.blk e3,h.n1,h.n2,h.n3,ι h.lt hs⟩
theorem jX.set {b:Nat}{T:List Bl}(h:jX w b fm F N aca T){c:Nat}(n1:b≠c)(n2:fm≠c)(n3:F≠c)(o:Nat)(v:Value):jX (w.setCell ⟨c,o,none⟩ v) b fm F N aca T :=
 h.blk (by simp[World.setCell]) (μ _ _ _ _ n1) (μ _ _ _ _ n2) (μ _ _ _ _ n3)
theorem Kept.gg (h:Kept A B w w'){c:Nat}(K:w.heap.size<=c)(o:Nat)(v:Value):Kept A B w (w'.setCell ⟨c,o,none⟩ v):=
 ⟨h.os,h.tape,h.output,by simpa[World.setCell]using h.size,λk D G O=>(μ _ _ _ _ (by simp only;omega)).trans (h.block k D G O)⟩
theorem bd (h:Below w.heap.size w.drew w'):Below w.heap.size w w':=⟨h.os,h.tape,h.output,h.size,h.block⟩
theorem kd (h:Kept A B w.drew w'):Kept A B w w':=⟨h.os,h.tape,h.output,h.size,h.block⟩
theorem LK (m:Nat)(L:List Bl)(a:Int)(w:World)(h:Mp w m L)(h0:0<=a)(G:a<256)(ty:TypeId):
  ∃w',(Builtin.delete_ #[325,3] ty #[.map (some m),.int .i64 a]).run prog w=.ok (.tuple #[]) w'/\Mp w' m (del a L)/\Kept m m w w':=by
 obtain⟨w',e1,e2,e3⟩:=h.own.drop law underlying325 (keyOf_int_mk underlying3 (iO h0 G)) ty;exact⟨w',e1,h.del e2,fC e3 (ε rfl)⟩
theorem Kept.wd {A' B':Nat}(h:Kept A A w w')(hA:A=A'\/A=B'):Kept A' B' w w' :=
 ⟨h.os,h.tape,h.output,h.size,λk D G O=>by
  have:k≠A:=by rcases hA with rfl|rfl<;>assumption
  exact h.block k D this this⟩
theorem Inv.small {T:List Bl}(h:Inv N aca T)(hN:N<=256){x:Bl}(hx:x∈T):0<=x.1/\x.1<256/\0<=x.2/\x.2<=6:=by
 have G:=h.inT hx;have O:=h.oT x hx;have h3:=cy x.2;unfold zI at O;omega
theorem jL.qU {T:List Bl}{x:Bl}(h:jL N aca T x)(hN:N<=256):0<=x.1/\x.1<256/\0<=x.2/\x.2<=6:=by
 have G:=h.inX;have O:=h.ox;have h3:=cy x.2;unfold zI at O;omega
def Tag (w:World)(g:Nat)(t:TypeId):Prop:=∃cur fz,w.heap[g]?=some (.cells cur t fz)
theorem Tag.blk (h:Tag w g t)(J:w'.heap[g]?=w.heap[g]?):Tag w' g t:=by
 obtain⟨cur,fz,e⟩:=h;exact⟨cur,fz,J.trans e⟩
theorem Tag.lt (h:Tag w g t):g<w.heap.size:=by
 obtain⟨cur,fz,e⟩:=h;rcases bC g w.heap.size with h'|h'
 ·exact h'
 ·rw[cx h']at e;cases e
theorem Tag.b (h:Tag w g t)(J:Below w.heap.size w w'):Tag w' g t:=h.blk (J.block g h.lt)
theorem Tag.set (h:Tag w g t)(a:Addr)(v:Value):Tag (w.setCell a v) g t:=by
 obtain⟨cur,fz,e⟩:=h;by_cases hg:g=a.block
 ·subst hg;refine⟨if a.spot.isSome then cur else cur.setIfInBounds a.off v,fz,?_⟩;simp only[World.setCell,fU,e];simp
 ·exact⟨cur,fz,(μ _ _ _ _ hg).trans e⟩
theorem Tag.ne {g':Nat}{t':TypeId}(h:Tag w g t)(h':Tag w g' t')(hne:t≠t'):g≠g':=by
 rintro rfl;obtain⟨cur,fz,e⟩:=h;obtain⟨cur',fz',e'⟩:=h';rw[e]at e';simp only[τ,Obj.cells.injEq]at e';exact hne e'.2.1
theorem bB (w:World)(cs:Array Value)(t:TypeId):Tag (w.alloc (.cells cs t)) w.heap.size t:=⟨cs,(0,0),heap_alloc_new w _⟩
structure xg (w:World)(g:Nat)(R:List Bl):Prop extends Row w g R where
 tg:Tag w g 291
theorem xg.b {R:List Bl}(h:xg w g R)(J:Below w.heap.size w w'):xg w' g R:=⟨h.toRow.b J,h.tg.b J⟩
theorem Cp (h:w.ownsRow B 291 2 v L.length (flat L))(hL:L≠[]):∃g cap,v=.slice (some ⟨g,0,none⟩) L.length cap/\B<=g/\L.length<=cap/\cap<=maxLen/\xg w g L:=by
 obtain⟨g,cap,hv,hB,G,O,hr⟩:=oQ h hL;refine⟨g,cap,hv,hB,G,O,hr,?_⟩;rcases h.2 with⟨h0,_⟩|⟨g',cap',cur,hv',_,hg,_⟩
 ·rw[h0]at hv;cases hv
 ·rw[hv]at hv';simp only[ψ,τ,av]at hv';obtain⟨⟨rfl,_⟩,_⟩:=hv';exact⟨cur,_,hg⟩
def RL (w:World)(b:Nat)(v:Value)(L:List Bl):Prop :=
 (L=[]/\v=.slice none 0 0)\/∃g c,v=.slice (some ⟨g,0,none⟩) L.length c/\g≠b/\L.length<=c/\c<=maxLen/\L≠[]/\xg w g L
theorem RL.b {b:Nat}(h:RL w b v L)(J:Below w.heap.size w w'):RL w' b v L:=by
 rcases h with h|⟨g,c,hv,h0,G,O,h3,hr⟩
 ·exact ε h
 ·exact δ ⟨g,c,hv,h0,G,O,h3,hr.b J⟩
theorem Row.off {b:Nat}(h:Row w g L)(hne:g≠b)(o:Nat)(v:Value):Row (w.setCell ⟨b,o,none⟩ v) g L :=
 ⟨λi hi=>⟨(bu (by simp<;>omega)).trans (h.c i hi).1,(bu (by simp<;>omega)).trans (h.c i hi).2⟩,λo' ho=>by simp only[Ψ];exact h.fz o' ho,by simpa[World.setCell]using h.lt⟩
theorem xg.off {b:Nat}(h:xg w g L)(hne:g≠b)(o:Nat)(v:Value):xg (w.setCell ⟨b,o,none⟩ v) g L:=⟨h.toRow.off hne o v,h.tg.set _ _⟩
theorem RL.off {b:Nat}(h:RL w b v L)(o:Nat)(u:Value):RL (w.setCell ⟨b,o,none⟩ u) b v L:=by
 rcases h with h|⟨g,c,hv,h0,G,O,h3,hr⟩
 ·exact ε h
 ·exact δ ⟨g,c,hv,h0,G,O,h3,hr.off h0 o u⟩
theorem tM {b:Nat}(h:w.ownsRow B 291 2 v L.length (flat L))(hn:L=[]->v=.slice none 0 0)(J:b<B):RL w b v L:=by
 by_cases hL:L=[]
 ·exact ε ⟨hL,hn hL⟩
 ·obtain⟨g,cap,hv,hg,G,O,hr⟩:=Cp h hL;exact δ ⟨g,cap,hv,by omega,G,O,hL,hr⟩
structure RB (w:World)(b:Nat)(N:Int)(aca T:List Bl):Prop where
 c0:w.cell? ⟨b,0,none⟩=some (.int .i64 N)
 c1:∃v,w.cell? ⟨b,1,none⟩=some v/\RL w b v aca
 c2:∃v,w.cell? ⟨b,2,none⟩=some v/\RL w b v T
 f1:w.frozen? ⟨b,1,none⟩=false
 f2:w.frozen? ⟨b,2,none⟩=false
 lt:b<w.heap.size
 tg:Tag w b 333
theorem RB.b {b:Nat}{T:List Bl}(h:RB w b N aca T)(J:Below w.heap.size w w'):RB w' b N aca T:=by
 obtain⟨v1,e1,l1⟩:=h.c1;obtain⟨v2,e2,l2⟩:=h.c2;exact⟨(J.cell (p:=⟨b,0,none⟩) h.lt).trans h.c0,⟨v1,(J.cell (p:=⟨b,1,none⟩) h.lt).trans e1,l1.b J⟩,⟨v2,(J.cell (p:=⟨b,2,none⟩) h.lt).trans e2,l2.b J⟩,(J.frozen (p:=⟨b,1,none⟩) h.lt).trans h.f1,(J.frozen (p:=⟨b,2,none⟩) h.lt).trans h.f2,ι h.lt J.size,h.tg.b J⟩
theorem RB.a {b:Nat}{T:List Bl}(h:RB w b N aca T)(o:Obj):RB (w.alloc o) b N aca T:=h.b (χ (γ _ _) o)
theorem RB.QP {b:Nat}{T:List Bl}(h:RB w b N aca T)(hv:RL w b v F'):RB (w.setCell ⟨b,1,none⟩ v) b N F' T:=by
 obtain⟨v1,e1,l1⟩:=h.c1;obtain⟨v2,e2,l2⟩:=h.c2;exact⟨(bu (by simp)).trans h.c0,⟨v,fK e1,hv.off _ _⟩,⟨v2,(bu (by simp)).trans e2,l2.off _ _⟩,by simp only[Ψ];exact h.f1,by simp only[Ψ];exact h.f2,by simpa[World.setCell]using h.lt,h.tg.set _ _⟩
theorem RB.UR {b:Nat}{T:List Bl}(h:RB w b N aca T)(hv:RL w b v T'):RB (w.setCell ⟨b,2,none⟩ v) b N aca T':=by
 obtain⟨v1,e1,l1⟩:=h.c1;obtain⟨v2,e2,l2⟩:=h.c2;exact⟨(bu (by simp)).trans h.c0,⟨v1,(bu (by simp)).trans e1,l1.off _ _⟩,⟨v,fK e2,hv.off _ _⟩,by simp only[Ψ];exact h.f1,by simp only[Ψ];exact h.f2,by simpa[World.setCell]using h.lt,h.tg.set _ _⟩
theorem lG {b:Nat}(h:RL w b v L):∃p m c,v=.slice p m c/\RL w b (.slice p m c) L:=by
 have h':=h;rcases h with⟨_,rfl⟩|⟨g,c,rfl,_⟩
 ·exact⟨_,_,_,rfl,h'⟩
 ·exact⟨_,_,_,rfl,h'⟩
theorem fwd {w1 w2:World}{n:Nat}(h:Below n w w1)(hn:n<=w1.heap.size)(k:Below w1.heap.size w1 w2):Below n w w2:=h.trans (k.mono hn)
theorem xh (b:Nat)(v:Value)(L:List Bl)(x:Bl)(w:World)(h:RL w b v L)(hl:L.length<=256)(hx:∀y∈L,y.1≠x.1):
  Calls prog 263 #[v,fJ x.1 x.2] w λev w'=>∃p m c,ev=.returned (.slice p m c)/\(∀b',b'<w.heap.size->RL w' b' (.slice p m c) (ins x L))/\Below w.heap.size w w':=by
 have key:∀(w':World) v',w'.ownsRow w.heap.size 291 2 v' (ins x L).length (flat (ins x L))->(ins x L=[]->v'=.slice none 0 0)->∃p m c,v'=.slice p m c/\∀b',b'<w.heap.size->RL w' b' (.slice p m c) (ins x L):=by
  intro w' v' ho hn;by_cases h0:0<w.heap.size
  ·obtain⟨p,m,c,rfl,_⟩:=lG (tM ho hn h0);exact⟨p,m,c,rfl,λb' hb'=>tM ho hn hb'⟩
  ·by_cases hL:ins x L=[]
   ·exact⟨none,0,0,hn hL,λb' hb'=>absurd hb' (by omega)⟩
   ·obtain⟨g,cap,hv,_⟩:=oQ ho hL;exact⟨_,_,_,hv,λb' hb'=>absurd hb' (by omega)⟩
 rcases h with⟨hL,rfl⟩|⟨g,c,rfl,_,G,O,h3,hr⟩
 ·subst hL;refine(G_ x w).mono ?_;rintro ev w'⟨v',rfl,ho,hn,hbl⟩;obtain⟨p,m,c,rfl,hh⟩:=key w' v' ho hn;exact⟨p,m,c,rfl,hh,hbl⟩
 ·refine(LJ g c L x w hr.toRow (aU.2 h3) hl G O hx).mono ?_;rintro ev w'⟨v',rfl,ho,hn,hbl⟩;obtain⟨p,m,c,rfl,hh⟩:=key w' v' ho hn;exact⟨p,m,c,rfl,hh,hbl⟩
theorem xi (b:Nat)(v:Value)(L:List Bl)(k:Nat)(w:World)(h:RL w b v L)(hs:pP L)(hl:L.length<=256)(D:k<L.length):
  Calls prog 262 #[v,.int .i64 k] w λev w'=>∃p m c,ev=.returned (.slice p m c)/\(∀b',b'<w.heap.size->RL w' b' (.slice p m c) (del L[k].1 L))/\Below w.heap.size w w':=by
 rcases h with⟨hL,_⟩|⟨g,c,rfl,_,G,O,h3,hr⟩
 ·subst hL;simp at D
 ·have jw:0<w.heap.size:=eM (Γ _) hr.lt;refine(zR g c k L w hr.toRow hl G O D).mono ?_;rintro ev w'⟨v',rfl,ho,hn,hbl⟩;rw[tI hs D]at ho hn;obtain⟨p,m,c,rfl,hh⟩:=lG (tM ho hn jw);exact⟨p,m,c,rfl,λb' hb'=>tM ho hn hb',hbl⟩
structure zr (w:World)(b c:Nat):Prop where
 o1:∃v L,w.cell? ⟨b,1,none⟩=some v/\RL w c v L
 o2:∃v L,w.cell? ⟨b,2,none⟩=some v/\RL w c v L
theorem zr.b {b c:Nat}(h:zr w b c)(hl:b<w.heap.size)(J:Below w.heap.size w w'):zr w' b c:=by
 obtain⟨v1,L1,e1,r1⟩:=h.o1;obtain⟨v2,L2,e2,r2⟩:=h.o2;exact⟨⟨v1,L1,(J.cell (p:=⟨b,1,none⟩) hl).trans e1,r1.b J⟩,⟨v2,L2,(J.cell (p:=⟨b,2,none⟩) hl).trans e2,r2.b J⟩⟩
theorem RL.nS {b c:Nat}{M:List Bl}(h:RL w c v L)(O:RL w b v M)(o:Nat)(u:Value):RL (w.setCell ⟨b,o,none⟩ u) c v L:=by
 rcases h with h|⟨g,c,rfl,h0,G,h2',h3,hr⟩
 ·exact ε h
 ·rcases O with⟨_,hv⟩|⟨g',c',hv,h0',_⟩
  ·cases hv
  ·have e:g'=g:=by
    have:=hv;simp only[ψ,τ,av]at this;exact this.1.1.symm
   exact δ ⟨g,_,rfl,h0,G,h2',h3,hr.off (e▸h0') o u⟩
theorem RB.wW {b c:Nat}{T:List Bl}(h:RB w b N aca T)(ho:zr w b c)(hv:RL w b v F')(K:RL w c v F'):zr (w.setCell ⟨b,1,none⟩ v) b c:=by
 obtain⟨v2,L2,e2,r2⟩:=ho.o2;obtain⟨v3,e3,l3⟩:=h.c2;have e:v2=v3:=ah (e2.symm.trans e3);subst e;obtain⟨v1,e1,l1⟩:=h.c1;exact⟨⟨v,F',fK e1,K.nS hv _ _⟩,⟨v2,L2,(bu (by simp)).trans e2,r2.nS l3 _ _⟩⟩
theorem RB.GN {b c:Nat}{T:List Bl}(h:RB w b N aca T)(ho:zr w b c)(hv:RL w b v T')(K:RL w c v T'):zr (w.setCell ⟨b,2,none⟩ v) b c:=by
 obtain⟨v1,L1,e1,r1⟩:=ho.o1;obtain⟨v3,e3,l3⟩:=h.c1;have e:v1=v3:=ah (e1.symm.trans e3);subst e;obtain⟨v2,e2,l2⟩:=h.c2;exact⟨⟨v1,L1,(bu (by simp)).trans e1,r1.nS l3 _ _⟩,⟨v,T',fK e2,K.nS hv _ _⟩⟩
theorem RB.zT {b:Nat}{T:List Bl}(h:RB w b N aca T)(o:Obj):zr (w.alloc o) b w.heap.size:=by
 obtain⟨v1,e1,l1⟩:=h.c1;obtain⟨v2,e2,l2⟩:=h.c2;have key:∀v L,RL w b v L->RL w w.heap.size v L:=by
  intro v L h;rcases h with h|⟨g,c,hv,h0,G,O,h3,hr⟩
  ·exact ε h
  ·exact δ ⟨g,c,hv,Nat.ne_of_lt hr.lt,G,O,h3,hr⟩
 have J:=χ (γ w.heap.size w) o;exact⟨⟨v1,aca,(J.cell (p:=⟨b,1,none⟩) h.lt).trans e1,(key _ _ l1).b J⟩,⟨v2,T,(J.cell (p:=⟨b,2,none⟩) h.lt).trans e2,(key _ _ l2).b J⟩⟩
theorem RB.box {b c:Nat}{T:List Bl}(h:RB w b N aca T)(ho:zr w b c)(YB:c≠b)(o:Nat)(u:Value):RB (w.setCell ⟨c,o,none⟩ u) b N aca T/\zr (w.setCell ⟨c,o,none⟩ u) b c:=by
 obtain⟨v1,e1,l1⟩:=h.c1;obtain⟨v2,e2,l2⟩:=h.c2;obtain⟨u1,L1,g1,r1⟩:=ho.o1;obtain⟨u2,L2,g2,r2⟩:=ho.o2;have q1:u1=v1:=ah (g1.symm.trans e1);have q2:u2=v2:=ah (g2.symm.trans e2);subst q1;subst q2;exact⟨⟨(bu (by simp<;>omega)).trans h.c0,⟨u1,(bu (by simp<;>omega)).trans e1,l1.nS r1 _ _⟩,⟨u2,(bu (by simp<;>omega)).trans e2,l2.nS r2 _ _⟩,by simp only[Ψ];exact h.f1,by simp only[Ψ];exact h.f2,by simpa[World.setCell]using h.lt,h.tg.set _ _⟩,
  ⟨⟨u1,L1,(bu (by simp<;>omega)).trans e1,r1.off _ _⟩,⟨u2,L2,(bu (by simp<;>omega)).trans e2,r2.off _ _⟩⟩⟩
theorem dw (w:World):Below w.heap.size w w.drew:=⟨rfl,rfl,rfl,ζ _,λ_ _=>rfl⟩
theorem Hb (L:List Bl):∀j,j<L.length->pk L j∈L
 |0,h=>by unfold pk;rw[getD_lt h];exact aO h
 |j+1,h=>by
  unfold pk;split
  ·rw[getD_lt h];exact aO h
  ·exact Hb L j (by omega)
theorem iQ {x:Bl}(h:fit o aca=some x):x∈aca/\o<=x.2:=by
 unfold fit at h;split at h
 ·cases h
 ·next hne =>
  have:=Hb (aca.filter (λx=>decide (o<=x.2))) ((aca.filter (λx=>decide (o<=x.2))).length-1) (by have:=aU.2 hne;omega);rw[ah h]at this;simpa using this
theorem xj :fit o aca=none↔∀x∈aca,x.2<o:=by
 unfold fit;by_cases h:aca.filter (λx=>decide (o<=x.2))=[]
 ·rw[af h];rw[List.filter_eq_nil_iff]at h;simp at h ⊢;exact h
 ·rw[ai h];simp;rw[List.filter_eq_nil_iff]at h;simpa using h
def iz:Nat->Int->Int->List Bl->List Bl
 |0,_,_,ab3=>ab3
 |n+1,a,j,ab3=>iz n a (j-1) (ins (a+pw (j-1),j-1) ab3)
def gV (k:Int)(x:Bl)(aca:List Bl):List Bl:=iz (x.2-k).toNat x.1 x.2 (del x.1 aca)
theorem tN {T:List Bl}{a k:Int}(k0:0<=k):∀(n:Nat) (j:Int) (ab3:List Bl),n=(j-k).toNat->k<=j->jL N ab3 T (a,j)->jL N (iz n a j ab3) T (a,k)
 |0,j,ab3,hn,E,h=>by
  have:j=k:=by omega
  subst this;exact h
 |n+1,j,ab3,hn,E,h=>by
  unfold iz;exact tN k0 n (j-1) _ (by omega) (by omega) (h.Cj (by omega))
theorem Hc {T:List Bl}{k:Int}{x:Bl}(k0:0<=k)(h:Inv N aca T)(hx:x∈aca)(D:k<=x.2):Inv N (gV k x aca) (ins (x.1,k) T):=
 (tN k0 _ x.2 _ rfl D (h.zL hx)).Ci
theorem LL (b fm F:Nat)(N:Int)(aca T:List Bl)(k:Int)(x:Bl)(w:World)(h:jX w b fm F N aca T)(hi:Inv N aca T)(hN:N<=256)(h0:0<=k)(h6:k<=6)(hf:fit k aca=some x):
  Calls prog 259 #[ptr b,.int .i64 k] w λev w'=>ev=.returned (.tuple #[fJ x.1 k,.nilIface])/\jX w' b fm F N (gV k x aca) (ins (x.1,k) T)/\Kept fm F w w':=by
 obtain⟨QQ,hkx⟩:=iQ hf;have HF:=QM k b fm F N aca T (w.alloc (bV 0 0)) (h.a _);have hfv:Eo k aca=.tuple #[fJ x.1 x.2,.bool true]:=by unfold Eo;rw[hf]
 rw[hfv]at HF;have HF:=I HF;have hbl:=h.lt;have qo:=h.f.lt;have uX:=h.t.lt;have B1:=h.a (bV 0 0);have X1:=ix w (0,0);have F1:Kept fm F w (w.alloc (bV 0 0)):=kp _ _ _ _;have s1:(w.alloc (bV 0 0)).heap.size=w.heap.size+1:=by simp
 have LM:=I (hi.zL QQ);have hsm:=(hi.zL QQ).qU hN;have HR:Hid (gV k x aca=iz (x.2-k).toNat x.1 x.2 (del x.1 aca)):=rfl;obtain⟨R,hR⟩:∃R,R=gV k x aca:=⟨_,rfl⟩;rw[<- hR]at HR ⊢;clear h hi hfv hf hR QQ;unfold ptr at*;obtain⟨a,j0⟩:=x;simp only at*;have d1:decide (k<0)=false:=by simp;omega
 have d2:decide (6<k)=false:=by simp;omega
 go_enter func259,ntmps259;go_wp2_with fail;refine(Z HF).mono ?_;rintro ev w2⟨rfl,b2⟩;have B2:=(B1.b b2).a (bV a j0);have X2:=(X1.b b2).a (bV a j0);have XB:=ix w2 (a,j0);have F2:=F1.trans (dY (χ b2 (bV a j0)));have s2:=b2.size;clear B1 X1 F1 HF d1 d2;go_wp2_with fail;generalize hW:w2.alloc (bV a j0)=W at*;generalize OH:w2.heap.size=xb at*;clear hW b2;have c1:=B2.c1;have x0:=XB.c0;obtain⟨w4,hrun,hM4,hK4⟩:=LK fm aca a W.drew B2.f.d hsm.1 hsm.2.1 0;have KC:=I (λw1 (J:Kept fm fm W.drew w1)=>(⟨dA B2.c1 B2.f B2.f (kd J),dA XB.c0 B2.f B2.f (kd J)⟩:w1.cell? ⟨b,1,none⟩=some (.map (some fm))/\w1.cell? ⟨xb,0,none⟩=some (.int .i64 a)));have KC4:=(Z KC) w4 hK4;have KC3:=(Z KC) W.drew (Kept.refl _ _ _);simp only at x0;go_region_held3 (λw'=>w'.cell? ⟨b,1,none⟩=some (.map (some fm))/\w'.cell? ⟨xb,0,none⟩=some (.int .i64 a)) ((first|(exact KC4)|(exact KC3)|(go_keep;done))) (fail);have UT:=kd hK4;have B4:=I (B2.QE UT hM4);have X4:=I (X2.k B2.f B2.f UT);have UW:=I (XB.k B2.f B2.f UT);have F4:=F2.trans (UT.wd (ε rfl));clear KC KC3 KC4 hK4 hrun c1 x0 X2 XB B2 F2 hM4 UT;go_wp2;go_loopw [8,9,10] (λ_ _ _ wr=>∃(j:Int) (ab3:List Bl),k<=j/\j<=6/\Hid (jL N ab3 T (a,j))/\Hid (R=iz (j-k).toNat a j ab3)/\Hid (Bx wr w.heap.size (0,0))/\Hid (Bx wr xb (a,j))/\Hid (jX wr b fm F N ab3 T)/\Kept fm F w wr) (λ_ _ _ wr=>(intOf ((wr.cell? ⟨xb,1,none⟩).getD undef)).toNat)
 case atStart=>exact⟨j0,del a aca,hkx,hsm.2.2.2,LM,HR,X4,UW,B4,F4⟩
 case round =>
  clear B4 X4 UW F4 LM HR;obtain⟨j,ab3,hkj,hj6,hI,hR,h4,h5,hB,D⟩:=hrel;have y0:=(Z h5).c0;have y1:=(Z h5).c1;simp only at y0 y1;have Cq:=I y1;have OI:=(Z h5).lt;by_cases QR:k<j
  ·have dk:decide (k<j)=true:=by simpa using QR
   have hsj:=(Z hI).qU hN;have eY:=(Z hI).inX;have Eu:=(Z hI).ox;unfold zI at Eu;simp only at hsj eY Eu;have YC:=qN (by omega:1<=j) Eu.2.2;have Cl:=cy (j-1);have HH:=I (λw=>D_ a j w hsj.1 hsj.2.1 (by omega) hj6 ((uO _ _).2 Eu.2.2));have UX:=I ((Z hI).Cj (by omega));have LN:Hid (R=iz (j-1-k).toNat a (j-1) (ins (a+pw (j-1),j-1) ab3)):=by
    have:=Z hR;rw[show(j-k).toNat=(j-1-k).toNat+1 by omega]at this;exact this
   have KG:0<=a+pw (j-1)/\a+pw (j-1)<256/\0<=j-1/\j-1<=6:=by omega
   obtain⟨a2,j2,YD,HJ2⟩:∃a2 j2,Hid (a2=a+pw (j-1))/\Hid (j2=j-1):=⟨_,_,rfl,rfl⟩;rw[<- Z YD,<- Z HJ2]at HH KG UX LN;clear eY Eu YC hI hR Cl;go_wp2_with fail;refine(Z HH _).mono ?_;rintro ev w5⟨rfl,b5⟩;have B5:=(((Z hB).b b5).a (bV a j2)).a (bV a2 j2);have F5:=D.trans (dY (χ (χ b5 (bV a j2)) (bV a2 j2)));have XL:=(ix w5 (a,j2)).a (bV a2 j2);have XH:=ix (w5.alloc (bV a j2)) (a2,j2);rw[show(w5.alloc (bV a j2)).heap.size=w5.heap.size+1 by simp]at XH;have X0:=(((Z h4).b b5).a (bV a j2)).a (bV a2 j2);have XX:=(((Z h5).b b5).a (bV a j2)).a (bV a2 j2);have s5:=b5.size;have hks:=D.size;clear y0 y1 hB h4 h5 b5;go_wp2_with fail;generalize(w5.alloc (bV a j2)).alloc (bV a2 j2)=W5 at*;generalize hcc:w5.heap.size=c at*;have c1:=B5.c1;have x0:=XH.c0;have x1:=XH.c1;simp only at x0 x1;have HP:=I (zN (a2,j2) fm ab3 W5.drew B5.f.d KG);have KC:=I (λw1 (J:Kept fm fm W5.drew w1)=>(⟨dA B5.c1 B5.f B5.f (kd J),dA XH.c0 B5.f B5.f (kd J),dA XH.c1 B5.f B5.f (kd J)⟩:w1.cell? ⟨b,1,none⟩=some (.map (some fm))/\w1.cell? ⟨c+1,0,none⟩=some (.int .i64 a2)/\w1.cell? ⟨c+1,1,none⟩=some (.int .i64 j2)));go_region_held3 (λw'=>w'.cell? ⟨b,1,none⟩=some (.map (some fm))/\w'.cell? ⟨c+1,0,none⟩=some (.int .i64 a2)/\w'.cell? ⟨c+1,1,none⟩=some (.int .i64 j2)) ((first|(go_keep;done)|(exact(Z KC) _ (by assumption)))) ((go_at_call 196;refine(Z HP).mono ?_;rintro ev w6⟨rfl,M6,k6⟩));have k7:=kd k6;have B6:=B5.QE k7 M6;have F6:=F5.trans (k7.wd (ε rfl));have XL6:=XL.k B5.f B5.f k7;have TA:=X0.k B5.f B5.f k7;have OJ:=XX.k B5.f B5.f k7;clear x0 x1 c1 KC HP B5 F5 XL XH X0 XX k6 k7 M6;have l0:=XL6.c0;have l1:=XL6.c1;have p0:=OJ.c0;have p1:=OJ.c1;have p2:=OJ.f0;have p3:=OJ.f1;simp only at l0 l1 p0 p1;go_wp2;go_roundw;case rel =>
    have hj2:j2=j-1:=Z HJ2;exact⟨j2,_,by omega,by omega,Z UX,Z LN,(TA.off (by omega) _ _).off (by omega) _ _,OJ.set (a,j2),(B6.set (by omega) (by omega) (by omega) _ _).set (by omega) (by omega) (by omega) _ _,(F6.gg (by omega) _ _).gg (by omega) _ _⟩
   case measure =>
    have m1:((w6.setCell ⟨xb,0,none⟩ (.int .i64 a)).setCell ⟨xb,1,none⟩ (.int .i64 j2)).cell? ⟨xb,1,none⟩=some (.int .i64 j2):=fK (u:=.int .i64 j) (by rw[bu (by simp)];exact p1);have hj2:j2=j-1:=Z HJ2;rw[m1,Z Cq];simp[intOf];omega
  ·have hjk:j=k:=by omega
   subst hjk;have dk:decide (j<j)=false:=by simp
   have HIE:=I (Z hI).Ci;have hsj:=(Z hI).qU hN;have YE:R=ab3:=by have:=Z hR;rw[show(j-j).toNat=0 by omega]at this;exact this
   have B5:=Z hB;have XX:=Z h5;have X0:=Z h4;clear hB h5 h4 hR hI;have c2:=B5.c2;have HP:=I (zN (a,j) F T wr.drew B5.t.d hsj);have KC:=I (λw1 (J:Kept F F wr.drew w1)=>(⟨dA B5.c2 B5.t B5.t (kd J),dA XX.c0 B5.t B5.t (kd J),dA XX.c1 B5.t B5.t (kd J)⟩:w1.cell? ⟨b,2,none⟩=some (.map (some F))/\w1.cell? ⟨xb,0,none⟩=some (.int .i64 a)/\w1.cell? ⟨xb,1,none⟩=some (.int .i64 j)));have HRE:=I YE;clear YE;go_wp2;go_region_held3 (λw'=>w'.cell? ⟨b,2,none⟩=some (.map (some F))/\w'.cell? ⟨xb,0,none⟩=some (.int .i64 a)/\w'.cell? ⟨xb,1,none⟩=some (.int .i64 j)) ((first|(go_keep;done)|(exact(Z KC) _ (by assumption)))) ((go_at_call 196;refine(Z HP).mono ?_;rintro ev w6⟨rfl,M6,k6⟩));have k7:=kd k6;have B6:=B5.aac k7 M6;have F6:=D.trans (k7.wd (δ rfl));have TA:=X0.k B5.t B5.t k7;have OJ:=XX.k B5.t B5.t k7;clear c2 KC HP B5 X0 XX k6 k7 M6 y0 y1;have l0:=OJ.c0;have l1:=OJ.c1;have p0:=TA.c0;have p1:=TA.c1;have p2:=TA.f0;have p3:=TA.f1;simp only at l0 l1 p0 p1;go_wp2;refine Θ (v:=.tuple #[fJ a j,.nilIface]) (by simp[results,results259,go_sem,p0,p1]) rfl ⟨rfl,?_,(F6.gg (by omega) _ _).gg (by omega) _ _⟩;rw[Z HRE];exact(B6.set (by omega) (by omega) (by omega) _ _).set (by omega) (by omega) (by omega) _ _
end Bd
attribute [local go_sem ↓] Go.wp_at_zero Go.wp_at_succ
namespace Bd
open Fr
theorem zU {w:World}{b:Nat}{v:Value}{L:List Bl}(h:RL w b v L):∃p c,v=.slice p L.length c/\(0<L.length->∃g,p=some ⟨g,0,none⟩/\L.length<=c/\c<=maxLen/\Row w g L):=by
 rcases h with⟨rfl,rfl⟩|⟨g,c,rfl,_,G,O,_,hr⟩
 ·exact⟨none,0,rfl,λh=>by simp at h⟩
 ·exact⟨_,c,rfl,λ_=>⟨g,rfl,G,O,hr.toRow⟩⟩
theorem zr.sI {w:World}{b c d:Nat}(h:zr w b c)(O:zr w b d)(hd:d≠b)(o:Nat)(u:Value):zr (w.setCell ⟨d,o,none⟩ u) b c:=by
 obtain⟨u1,L1,g1,r1⟩:=h.o1;obtain⟨u2,L2,g2,r2⟩:=h.o2;obtain⟨v1,M1,e1,l1⟩:=O.o1;obtain⟨v2,M2,e2,l2⟩:=O.o2;have q1:u1=v1:=ah (g1.symm.trans e1);have q2:u2=v2:=ah (g2.symm.trans e2);subst q1;subst q2;exact⟨⟨u1,L1,(bu (by simp<;>omega)).trans g1,r1.nS l1 _ _⟩,⟨u2,L2,(bu (by simp<;>omega)).trans g2,r2.nS l2 _ _⟩⟩
theorem zV (b:Nat)(N:Int)(aca T:List Bl)(o:Int)(w:World)(h:RB w b N aca T)(hi:Inv N aca T)(hN:N<=256)(hf:fit o aca=none):
  Calls prog 237 #[ptr b,.int .i64 o] w λev w'=>ev=.returned (.tuple #[fJ 0 0,.bool false])/\Below w.heap.size w w':=by
 have hlen:aca.length<=256:=by
  have:=je hi.sF (a:=0) (b:=256) (λz hz=>by have G:=hi.Ov hz;have O:=cy z.2;omega);omega
 have B0:=h.a (bV 0 0);have X0:=I (ix w (0,0));have F0:=I (χ (γ w.heap.size w) (bV 0 0));have O0:=I (h.zT (bV 0 0));have s0:(w.alloc (bV 0 0)).heap.size=w.heap.size+1:=by simp
 clear h hi;unfold ptr;go_enter func237,ntmps237;go_wp2_with fail;generalize w.alloc (bV 0 0)=W at*;obtain⟨v1,OL,l1⟩:=B0.c1;obtain⟨p,c,rfl,hp⟩:=zU l1;clear l1;generalize hn:aca.length=n at*;go_loopw [6,7] (λs t wr=>∃j:Nat,s=.int .i64 (dK o aca j)/\t=.int .i64 j/\j<=n/\Hid (Below W.heap.size W wr)) (λ_ t _=>n-(intOf t).toNat)
 case atStart=>exact⟨0,rfl,rfl,Γ _,γ _ _⟩
 case round =>
  obtain⟨j,rfl,rfl,E,J⟩:=hrel;have e1:=((Z J).cell (p:=⟨b,1,none⟩) B0.lt).trans OL;have UY:(0:Int)<=j:=by omega
  by_cases pS:j<n
  ·have kq:(j:Int)<n:=by omega
   have QO:(j:Int)<c:=by omega
   have sH:j<aca.length:=by omega
   have zW:=jZ o aca j;have jP:dK o aca (j+1)=if o<=(aca.getD j (0,0)).2/\(dK o aca j<0\/(aca.getD j (0,0)).2<(aca.getD (dK o aca j).toNat (0,0)).2)then(j:Int)else dK o aca j:=rfl;obtain⟨g,rfl,gB,lF,wI⟩:=hp (by omega);have hr:=wI.b (Z J);have c1:=(hr.c j sH).2;have oW:=I jP;have HR:=I hr;generalize hy:(aca.getD j (0,0)).2=y at*;clear jP hr wI hp hy;by_cases ho:o<=y
   ·have d1:decide (o<=y)=true:=by simpa using ho
    by_cases KH:dK o aca j<0
    ·have d2:decide (dK o aca j<0)=true:=by simpa using KH
     have zX:Hid (dK o aca (j+1)=j):=by show _=_;rw[Z oW,af ⟨ho,ε KH⟩]
     clear oW HR zW;generalize dK o aca j = β at*;go_wp2_with fail;go_quiet (fail);go_wp2;go_roundw;case rel=>exact⟨j+1,by rw[Z zX],by go_num,by omega,jM (Z J) _⟩
     case measure=>simp[intOf];omega
    ·obtain⟨m,hm⟩:∃m:Nat,dK o aca j=(m:Int):=⟨(dK o aca j).toNat,by omega⟩;have QS:m<aca.length:=by omega
     have c2:=((Z HR).c m QS).2;have YF:(0:Int)<=m:=by omega
     have Cr:(m:Int)<n:=by omega
     have hmc:(m:Int)<c:=by omega
     have d2:decide ((m:Int)<0)=false:=by simp
     have jP:=Z oW;rw[hm]at jP ⊢;rw[show((m:Int)).toNat=m by omega]at jP;have oW:=I jP;generalize hz:(aca.getD m (0,0)).2=z at*;by_cases LO:y<z
     ·have d3:decide (y<z)=true:=by simpa using LO
      have zX:Hid (dK o aca (j+1)=j):=by show _=_;rw[Z oW,af ⟨ho,δ LO⟩]
      clear oW HR zW jP hm hz;go_wp2_with fail;go_quiet (fail);go_wp2;go_roundw;case rel=>exact⟨j+1,by rw[Z zX],by go_num,by omega,jM (Z J) _⟩
      case measure=>simp[intOf];omega
     ·have d3:decide (y<z)=false:=by simpa using LO
      have zX:Hid (dK o aca (j+1)=m):=by show _=_;rw[Z oW,ai (by intro q;rcases q.2 with q|q;omega;exact LO q)]
      clear oW HR zW jP hm hz;go_wp2_with fail;go_quiet (fail);go_wp2;go_roundw;case rel=>exact⟨j+1,by rw[Z zX],by go_num,by omega,jM (Z J) _⟩
      case measure=>simp[intOf];omega
   ·have d1:decide (o<=y)=false:=by simpa using ho
    have zX:Hid (dK o aca (j+1)=dK o aca j):=by show _=_;rw[Z oW,ai (by intro q;exact ho q.1)]
    clear oW HR;generalize KH:dK o aca j = β at*;go_wp2_with fail;go_quiet (fail);go_wp2;go_roundw;case rel=>exact⟨j+1,by rw[Z zX],by go_num,by omega,jM (Z J) _⟩
    case measure=>simp[intOf];omega
  ·have kq:¬(j:Int)<n:=by omega
   have TC:j=aca.length:=by omega
   have KH:dK o aca j<0:=by
    by_cases hb0:dK o aca j<0
    ·exact hb0
    ·obtain⟨LP,hs⟩:=iP (o:=o) (L:=aca) (by rw[<- TC];omega);rw[hf]at hs;cases hs
   have d2:decide (dK o aca j<0)=true:=by simpa using KH
   have X:=(Z X0).b (Z J);have F2:=(Z F0).trans ((Z J).mono (by omega));have x0:=X.c0;have x1:=X.c1;have x2:=X.f0;have x3:=X.f1;simp only at x0 x1;clear KH hf X;generalize dK o aca j = β at*;go_wp2;exact Θ (v:=.tuple #[fJ 0 0,.bool false]) (by simp[results,results237,go_sem,x0,x1]) rfl ⟨rfl,(F2.setCell (by simp) _).setCell (by simp) _⟩
theorem qV (b:Nat)(N:Int)(aca T:List Bl)(o:Int)(x:Bl)(w:World)(h:RB w b N aca T)(hi:Inv N aca T)(hN:N<=256)(h0:0<=o)(hf:fit o aca=some x):
  Calls prog 237 #[ptr b,.int .i64 o] w λev w'=>ev=.returned (.tuple #[fJ x.1 o,.bool true])/\RB w' b N (gV o x aca) (ins (x.1,o) T)/\Kept b b w w':=by
 obtain⟨QQ,hkx⟩:=iQ hf;have hlen:aca.length<=256:=by
  have:=je hi.sF (a:=0) (b:=256) (λz hz=>by have G:=hi.Ov hz;have O:=cy z.2;omega);omega
 have B0:=h.a (bV 0 0);have X0:=I (ix w (0,0));have F0:=I (χ (γ w.heap.size w) (bV 0 0));have O0:=I (h.zT (bV 0 0));have s0:(w.alloc (bV 0 0)).heap.size=w.heap.size+1:=by simp
 have HSF:=I hi.sF;have hTl:Hid (T.length<=256):=by
  show T.length<=256;have:=je hi.sT (a:=0) (b:=256) (λz hz=>by have:=hi.small hN hz;omega);omega
 have LM:=I (hi.zL QQ);have hsm:=(hi.zL QQ).qU hN;have HR:Hid (gV o x aca=iz (x.2-o).toNat x.1 x.2 (del x.1 aca)):=rfl;obtain⟨R,hR⟩:∃R,R=gV o x aca:=⟨_,rfl⟩;rw[<- hR]at HR ⊢;have UZ:=h.lt;have hne:w.heap.size≠b:=by omega
 clear h hi hR QQ;obtain⟨a,j0⟩:=x;simp only at*;unfold ptr;go_enter func237,ntmps237;go_wp2_with fail;generalize w.alloc (bV 0 0)=W at*;obtain⟨v1,OL,l1⟩:=B0.c1;obtain⟨p,c,rfl,hp⟩:=zU l1;have L1:=I l1;clear l1;generalize hn:aca.length=n at*;go_loopw [6,7] (λs t wr=>∃j:Nat,s=.int .i64 (dK o aca j)/\t=.int .i64 j/\j<=n/\Hid (Below W.heap.size W wr)) (λ_ t _=>n-(intOf t).toNat)
 case atStart=>exact⟨0,rfl,rfl,Γ _,γ _ _⟩
 case round =>
  obtain⟨j,rfl,rfl,E,J⟩:=hrel;have e1:=((Z J).cell (p:=⟨b,1,none⟩) B0.lt).trans OL;have UY:(0:Int)<=j:=by omega
  by_cases pS:j<n
  ·have kq:(j:Int)<n:=by omega
   have QO:(j:Int)<c:=by omega
   have sH:j<aca.length:=by omega
   have zW:=jZ o aca j;have jP:dK o aca (j+1)=if o<=(aca.getD j (0,0)).2/\(dK o aca j<0\/(aca.getD j (0,0)).2<(aca.getD (dK o aca j).toNat (0,0)).2)then(j:Int)else dK o aca j:=rfl;obtain⟨g,rfl,gB,lF,wI⟩:=hp (by omega);have hr:=wI.b (Z J);have c1:=(hr.c j sH).2;have oW:=I jP;have HR:=I hr;generalize hy:(aca.getD j (0,0)).2=y at*;clear jP hr wI hp hy;by_cases ho:o<=y
   ·have d1:decide (o<=y)=true:=by simpa using ho
    by_cases KH:dK o aca j<0
    ·have d2:decide (dK o aca j<0)=true:=by simpa using KH
     have zX:Hid (dK o aca (j+1)=j):=by show _=_;rw[Z oW,af ⟨ho,ε KH⟩]
     clear oW HR zW;generalize dK o aca j = β at*;go_wp2_with fail;go_quiet (fail);go_wp2;go_roundw;case rel=>exact⟨j+1,by rw[Z zX],by go_num,by omega,jM (Z J) _⟩
     case measure=>simp[intOf];omega
    ·obtain⟨m,hm⟩:∃m:Nat,dK o aca j=(m:Int):=⟨(dK o aca j).toNat,by omega⟩;have QS:m<aca.length:=by omega
     have c2:=((Z HR).c m QS).2;have YF:(0:Int)<=m:=by omega
     have Cr:(m:Int)<n:=by omega
     have hmc:(m:Int)<c:=by omega
     have d2:decide ((m:Int)<0)=false:=by simp
     have jP:=Z oW;rw[hm]at jP ⊢;rw[show((m:Int)).toNat=m by omega]at jP;have oW:=I jP;generalize hz:(aca.getD m (0,0)).2=z at*;by_cases LO:y<z
     ·have d3:decide (y<z)=true:=by simpa using LO
      have zX:Hid (dK o aca (j+1)=j):=by show _=_;rw[Z oW,af ⟨ho,δ LO⟩]
      clear oW HR zW jP hm hz;go_wp2_with fail;go_quiet (fail);go_wp2;go_roundw;case rel=>exact⟨j+1,by rw[Z zX],by go_num,by omega,jM (Z J) _⟩
      case measure=>simp[intOf];omega
     ·have d3:decide (y<z)=false:=by simpa using LO
      have zX:Hid (dK o aca (j+1)=m):=by show _=_;rw[Z oW,ai (by intro q;rcases q.2 with q|q;omega;exact LO q)]
      clear oW HR zW jP hm hz;go_wp2_with fail;go_quiet (fail);go_wp2;go_roundw;case rel=>exact⟨j+1,by rw[Z zX],by go_num,by omega,jM (Z J) _⟩
      case measure=>simp[intOf];omega
   ·have d1:decide (o<=y)=false:=by simpa using ho
    have zX:Hid (dK o aca (j+1)=dK o aca j):=by show _=_;rw[Z oW,ai (by intro q;exact ho q.1)]
    clear oW HR;generalize KH:dK o aca j = β at*;go_wp2_with fail;go_quiet (fail);go_wp2;go_roundw;case rel=>exact⟨j+1,by rw[Z zX],by go_num,by omega,jM (Z J) _⟩
    case measure=>simp[intOf];omega
  ·have kq:¬(j:Int)<n:=by omega
   have TC:j=aca.length:=by omega
   obtain⟨m,QS,U1,hmx⟩:∃m:Nat,∃h:m<aca.length,dK o aca j=(m:Int)/\aca[m]=(a,j0):=by
    have aae:0<=dK o aca aca.length:=by
     by_cases hb0:0<=dK o aca aca.length
     ·exact hb0
     ·have:=nQ (o:=o) (L:=aca) (by omega);rw[hf]at this;cases this
    obtain⟨LP,hs⟩:=iP aae;rw[hf]at hs;exact⟨_,LP,by rw[TC];omega,(ah hs).symm⟩
   rw[U1];obtain⟨g,rfl,gB,lF,wI⟩:=hp (by omega);have cc:=(wI.b (Z J)).c m QS;rw[getD_lt QS,hmx]at cc;obtain⟨c1,c2⟩:=cc;simp only at c1 c2;have YF:(0:Int)<=m:=by omega
   have Cr:(m:Int)<n:=by omega
   have hmc:(m:Int)<c:=by omega
   have d2:decide ((m:Int)<0)=false:=by simp
   have BW:=B0.b (Z J);have B1:=BW.a (bV a j0);have X1:=I (((Z X0).b (Z J)).a (bV a j0));have XB:=I (ix wr (a,j0));have O1:=I (((Z O0).b B0.lt (Z J)).b BW.lt (χ (γ _ _) (bV a j0)));have OB:=I (BW.zT (bV a j0));have F1:=I (dY (χ ((Z F0).trans ((Z J).mono (by omega))) (bV a j0)):Kept b b w (wr.alloc (bV a j0)));have OI:w.heap.size<wr.heap.size:=((Z X0).b (Z J)).lt;have U7:wr.heap.size<(wr.alloc (bV a j0)).heap.size:=by simp
   have xk:=B1.lt;have e3:(wr.alloc (bV a j0)).cell? ⟨b,1,none⟩=some (.slice (some ⟨g,0,none⟩) n c):=((χ (γ wr.heap.size wr) (bV a j0)).cell (p:=⟨b,1,none⟩) BW.lt).trans e1;have ff:=B1.f1;have U8:=xi b (.slice (some ⟨g,0,none⟩) n c) aca m (wr.alloc (bV a j0)) (((Z L1).b (Z J)).b (χ (γ _ _) _)) (Z HSF) (by omega) QS;rw[show aca[m].1=a by rw[hmx]]at U8;have U8:=I U8;have YG:=I B1;clear BW B1 B0 X0 O0 F0 L1 wI hp U1 hmx hf s0 J OL HSF;go_wp2_with fail;refine(Z U8).mono ?_;rintro ev w4⟨p4,m4,c4,rfl,l4,b4⟩;have y4:=(b4.cell (p:=⟨b,1,none⟩) xk).trans e3;have z4:=(b4.frozen (p:=⟨b,1,none⟩) xk).trans ff;have OH:wr.heap.size≠b:=by omega
   have B4:=I (((Z YG).b b4).QP (l4 b xk));have O4:=I (((Z YG).b b4).wW ((Z O1).b xk b4) (l4 b xk) (l4 _ (by omega)));have OB4:=I (((Z YG).b b4).wW ((Z OB).b xk b4) (l4 b xk) (l4 _ U7));have X4:=I (((Z X1).b b4).off hne 1 (.slice p4 m4 c4));have UW:=I (((Z XB).b b4).off OH 1 (.slice p4 m4 c4));have F4:=(Z F1).trans ((dY b4).trans (bA w4 1 (.slice p4 m4 c4)));clear YG O1 OB X1 XB F1 b4 l4 U8 e3 ff c1 c2 e1 U7 xk;go_wp2_with fail;generalize wr.heap.size=xb at*;go_loopw [] (λwr=>∃(j:Int) (ab3:List Bl),o<=j/\j<=6/\Hid (jL N ab3 T (a,j))/\Hid (R=iz (j-o).toNat a j ab3)/\Hid (Bx wr w.heap.size (0,0))/\Hid (Bx wr xb (a,j))/\Hid (RB wr b N ab3 T)/\Hid (zr wr b w.heap.size)/\Hid (zr wr b xb)/\Kept b b w wr) (λwr=>(intOf ((wr.cell? ⟨xb,1,none⟩).getD undef)).toNat)
   case atStart=>exact⟨j0,del a aca,hkx,hsm.2.2.2,LM,HR,X4,UW,B4,O4,OB4,F4⟩
   case round =>
    clear B4 X4 UW O4 OB4 F4 LM HR y4 z4;obtain⟨j2,ab3,hkj,hj6,hI,hR,h4,h5,hB,YH,Ev,D⟩:=hrel;have y0:=(Z h5).c0;have y1:=(Z h5).c1;have y2:=(Z h5).f0;have y3:=(Z h5).f1;simp only at y0 y1;have Cq:=I y1;have hsj:=(Z hI).qU hN;simp only at hsj;by_cases QR:o<j2
    ·have dk:decide (o<j2)=true:=by simpa using QR
     have eY:=(Z hI).inX;have Eu:=(Z hI).ox;unfold zI at Eu;simp only at eY Eu;have YC:=qN (by omega:1<=j2) Eu.2.2;have Cl:=cy (j2-1);have U_:al a (j2-1)=true:=(uO _ _).2 YC.1;have Gk:pw (j2-1+1) ∣ a:=by rw[show j2-1+1=j2 by omega];exact Eu.2.2
     have Va:=uT (a:=a) (k:=j2-1) (by omega) Gk;have TD:=λw=>Eh a (j2-1) w hsj.1 hsj.2.1 (by omega) (by omega) U_;rw[Va]at TD;have UX:=I ((Z hI).Cj (by omega));have LN:Hid (R=iz (j2-1-o).toNat a (j2-1) (ins (a+pw (j2-1),j2-1) ab3)):=by
      have:=Z hR;rw[show(j2-o).toNat=(j2-1-o).toNat+1 by omega]at this;exact this
     have zY:∀y∈ab3,y.1≠a+pw (j2-1):=λy hy=>by
      have:=(Z hI).wW hy;simp only at this;omega
     have hlg:ab3.length<=256:=by
      have:=je (Z hI).sF (a:=0) (b:=256) (λz hz=>by have G:=(Z hI).Ov hz;have O:=cy z.2;omega);omega
     obtain⟨a2,j3,YD,HJ3⟩:∃a2 j3,Hid (a2=a+pw (j2-1))/\Hid (j3=j2-1):=⟨_,_,rfl,rfl⟩;rw[<- Z YD,<- Z HJ3]at TD UX LN;rw[<- Z YD]at zY;have hji:j2-1=j3:=(Z HJ3).symm;have TD:=I TD;have aaf:=I zY;clear eY Eu YC Cl U_ Gk Va hI hR zY;have bb:=(Z hB).box (Z Ev) OH 0 (.int .i64 a);have bb2:=bb.1.box bb.2 OH 1 (.int .i64 j3);have B5:=bb2.1;have O85:=I bb2.2;have O45:=I (((Z YH).sI (Z Ev) OH 0 (.int .i64 a)).sI bb.2 OH 1 (.int .i64 j3));have X45:=I (((Z h4).off (by omega) 0 (.int .i64 a)).off (by omega) 1 (.int .i64 j3):Bx ((wr.setCell ⟨xb,0,none⟩ (.int .i64 a)).setCell ⟨xb,1,none⟩ (.int .i64 j3)) w.heap.size (0,0));have Vb:=I ((Z h5).set (a,j3));have F5:=I ((D.gg (ck OI) 0 (.int .i64 a)).gg (ck OI) 1 (.int .i64 j3));clear bb bb2 hB YH Ev h4 h5 D;go_wp2_with fail;generalize(wr.setCell ⟨xb,0,none⟩ (.int .i64 a)).setCell ⟨xb,1,none⟩ (.int .i64 j3)=W5 at*;clear y0 y1 y2 y3;obtain⟨v1,e1,l1⟩:=B5.c1;have qW:=B5.lt;have x0:=(Z Vb).c0;have x1:=(Z Vb).c1;simp only at x0 x1;have HW:=I (λw1 (J:Below W5.heap.size W5 w1)=>xh b v1 ab3 (a2,j3) w1 (l1.b J) hlg (Z aaf));have KE:=I (λw1 (J:Below W5.heap.size W5 w1)=>(⟨(J.cell (p:=⟨b,1,none⟩) qW).trans e1,(J.frozen (p:=⟨b,1,none⟩) qW).trans B5.f1⟩:w1.cell? ⟨b,1,none⟩=some v1/\w1.frozen? ⟨b,1,none⟩=false));have BH:=I B5;clear l1 B5 hlg;go_region_with ((first
      |(go_at_call 264;refine((Z TD) _).mono ?_;rintro ev w6⟨rfl,b6⟩;have f6:Below W5.heap.size W5 w6:=bd b6;have e6:=((Z KE) w6 f6).1)
      |(go_at_call 263;refine((Z HW) w6 f6).mono ?_;rintro ev w7⟨p7,m7,c7,rfl,l7,b7⟩;have f7:Below W5.heap.size W5 w7:=fwd f6 f6.size b7;have y8:=((Z KE) w7 f7).1;have z8:=((Z KE) w7 f7).2)))
     all_goals
      have q1:b<w6.heap.size:=ι qW f6.size;have q2:w.heap.size<w6.heap.size:=ι (Z X45).lt f6.size;have q3:xb<w6.heap.size:=ι (Z Vb).lt f6.size;have B7:=I (((Z BH).b f7).QP (l7 b q1));have YI:=I (((Z BH).b f7).wW ((Z O45).b qW f7) (l7 b q1) (l7 _ q2));have O87:=I (((Z BH).b f7).wW ((Z O85).b qW f7) (l7 b q1) (l7 _ q3));have QT:=I (((Z X45).b f7).off hne 1 (.slice p7 m7 c7));have TE:=I (((Z Vb).b f7).off OH 1 (.slice p7 m7 c7));have F7:=(Z F5).trans ((dY f7).trans (bA w7 1 (.slice p7 m7 c7)));clear HW KE TD BH O45 O85 X45 Vb F5 l7 b7 b6 y8 z8;go_wp2;go_roundw;case rel=>exact⟨j3,_,by omega,by omega,UX,LN,QT,TE,B7,YI,O87,F7⟩
      case measure =>
       have m1:=(Z TE).c1;simp only at m1;rw[m1,Z Cq];simp[intOf];omega
    ·have hjo:j2=o:=by omega
     subst hjo;have dk:decide (j2<j2)=false:=by simp
     have YE:Hid (R=ab3):=by have:=Z hR;rw[show(j2-j2).toNat=0 by omega]at this;exact this
     have zY:=I (λ(y:Bl) (hy:y∈T)=>(by have G:=(Z hI).GN hy;have O:=cy j2;simp only at G;omega:y.1≠a));have B5:=Z hB;obtain⟨v2,e2,l2⟩:=B5.c2;have qW:=B5.lt;have HW:=I (λw1 (J:Below wr.heap.size wr w1)=>xh b v2 T (a,j2) w1 (l2.b J) (Z hTl) (Z zY));have KE:=I (λw1 (J:Below wr.heap.size wr w1)=>(⟨(J.cell (p:=⟨b,2,none⟩) qW).trans e2,(J.frozen (p:=⟨b,2,none⟩) qW).trans B5.f2⟩:w1.cell? ⟨b,2,none⟩=some v2/\w1.frozen? ⟨b,2,none⟩=false));clear l2 B5 hI hR y2 y3;go_wp2_with fail;go_region_with ((go_at_call 263;refine((Z HW) _ (dw wr)).mono ?_;rintro ev w7⟨p7,m7,c7,rfl,l7,b7⟩;have f7:Below wr.heap.size wr w7:=bd b7;have y8:=((Z KE) w7 f7).1;have z8:=((Z KE) w7 f7).2));all_goals
      have q2:w.heap.size<wr.heap.size:=(Z h4).lt;have B7:=((Z hB).b f7).UR (l7 b qW);have YI:=((Z hB).b f7).GN ((Z YH).b qW f7) (l7 b qW) (l7 _ q2);have bb:=B7.box YI hne 0 (.int .i64 a);have bb2:=I (bb.1.box bb.2 hne 1 (.int .i64 j2)).1;have QT:=((Z h4).b f7).off hne 2 (.slice p7 m7 c7);have TE:=((Z h5).b f7).off OH 2 (.slice p7 m7 c7);have F7:=D.trans ((dY f7).trans (bA w7 2 (.slice p7 m7 c7)));have l0:=TE.c0;have l1:=TE.c1;have p0:=QT.c0;have p1:=QT.c1;have p2:=QT.f0;have p3:=QT.f1;simp only at l0 l1 p0 p1;clear HW KE hB YH Ev h4 h5 B7 YI bb QT TE l7 b7 y0 y1;go_wp2;refine Θ (v:=.tuple #[fJ a j2,.bool true]) (by simp[results,results237,go_sem,p0,p1]) rfl ⟨rfl,?_,(F7.gg (ζ _) _ _).gg (ζ _) _ _⟩;rw[Z YE];exact Z bb2
end Bd
end Go.Proofs.YtcbmfakjfoggaaaGreatDoor
namespace Go.Proofs.YtcbmfakjfoggaaaGreatDoor
open _root_.Go.Proofs.Tryz Go.RowKit Go.Maps
namespace Bd
open Fr
theorem QU {N:Int}(h:1<=N):cv 0 N≠[]:=by rw[uN 0 N h];simp
theorem Cs {x:Bl}{l:List Bl}(hs:pP l)(h:x∈l):fS (del x.1 l)+pw x.2=fS l:=by
 induction l with
 |nil=>cases h
 |cons y l ih =>
  rw[ft]at hs;rcases ae.1 h with G|h
  ·subst G;have e:del x.1 (x::l)=l:=by
    show List.filter _ (x::l)=l;rw[bZ];simp only[bne_self_eq_false,gU,if_false];exact lC (a:=x.1) (λy hy=>by have:=hs.1 y hy;omega)
   rw[e];simp[fS];omega
  ·have:=hs.1 x h;have e:del x.1 (y::l)=y::del x.1 l:=by
    show List.filter _ (y::l)=y::List.filter _ l;rw[bZ,af (by simp only[bne_iff_ne,ne_eq];omega)]
   rw[e];have:=ih hs.2 h;simp[fS];omega
theorem qX:∀{l:List Bl},(∀x∈l,0<=x.2/\x.2<=6)->0<=fS l/\fS l<=64*l.length
 |[],_=>by simp[fS]
 |x::l,h=>by
  have G:=h x (bh ..);have O:=qX (l:=l) (λy hy=>h y (aD _ hy));have h3:=cy x.2;have h4:=lB x.2 G.1 G.2;simp[fS];omega
def Hd (left:Lit->Bool)(aca:List Bl):List Bl:=aca.filter (λx=>left (.int .i64 x.1))
theorem LQ (aca:List Bl):Hd (Maps.has (qP aca)) aca=aca:=cG.2 (λx hx=>by rw[Ck];simp;exact⟨x.2,hx⟩)
theorem He {left:Lit->Bool}(aca:List Bl)(h:∀kl,left kl=false):Hd left aca=[]:=by unfold Hd;rw[List.filter_eq_nil_iff];intro x _;simp[h]
theorem Hf (left:Lit->Bool)(aca:List Bl)(a:Int):Hd (λz=>left z && !z.sameKey (.int .i64 a)) aca=del a (Hd left aca):=by
 unfold Hd del;rw[List.filter_filter];apply List.filter_congr;intro x _;show(left _ && !(Lit.int .i64 x.1).sameKey (.int .i64 a))=_;rw[lD,Bool.and_comm];rfl
theorem zZ (b fm F:Nat)(N:Int)(aca T:List Bl)(w:World)(h:jX w b fm F N aca T):
  Calls prog 252 #[ptr b] w λev w'=>ev=.returned (.tuple #[.int .i64 (fS aca),.int .i64 N])/\Below w.heap.size w w':=by
 have c1:=h.c1;have hown:=h.f.own;have hbl:=h.lt;have qo:=h.f.lt;have HB:=I h;have Gn:=qX (λx hx=>⟨(h.f.Oy x hx).2.2.1,(h.f.Oy x hx).2.2.2⟩);have hlen:=h.f.len;have HS:=I h.f.QC;have OM:=I h.f.Oy;clear h;unfold ptr;go_enter func252,ntmps252;go_wp2_with (first
  |(at_range;refine wpList_range_own _ rfl _ 325 rfl 3 3 law underlying325 _ fm aca.length _ rfl hown ?_;intro w0 hrg0 hg0 hs0)
  |go_in)
 go_frame;go_loopw [2] (λs wr=>∃(left:Lit->Bool) (cnt:Nat) (q:Int),s=.int .i64 q/\0<=q/\wr.ranges prog 3 (plainElem prog 3) fm w.heap.size aca.length (qP aca) left cnt/\Hid (q+fS (Hd left aca)=fS aca)/\Below w.heap.size w wr)
  (λ_ wr=>wr.rangeLeft fm w.heap.size)
 case atStart =>
  exact⟨_,_,0,rfl,by omega,hrg0,by show(0:Int)+_=_;rw[LQ];omega,(γ _ _).grown hg0 (ζ _) (λj E=>by cases E)⟩
 case round =>
  obtain⟨left,cnt,q,rfl,hqq,hrg,hq,jP⟩:=hrel;go_wp2_with (first
   |(at_next;refine wpList_next_ranges_ii _ rfl _ rfl 3 3 .i64 .i64 law underlying3 underlying3 fm w.heap.size aca.length _ _ _ rfl hrg ?_ ?_)
   |go_in)
  ·intro hc0 hl0;have Gp:=Z hq;rw[He aca hl0]at Gp;have e:q=fS aca:=by simpa[fS]using Gp
   have HE:=I e;clear e Gp hq;have k0:=(jP.cell (p:=⟨b,0,none⟩) hbl).trans (Z HB).c0;go_wp2_with fail;go_quiet (fail);go_wp2;go_ret2;exact⟨by rw[<- Z HE];rfl,jM jP _⟩
  ·intro x c w1 cnt1 hwx hwc hlx hat hrg1 hlt hg1 hs1 hen;have ql:(x,c)∈aca:=by
    have G:=Maps.has_true_of_atKey hat;rw[Ck]at G;simp at G;obtain⟨y,hy⟩:=G;have:=GS (Z HS) hy (.nil);rw[hat]at this;have e:c=y:=by simpa using this
    rw[e];exact hy
   have hr:=(Z OM) _ ql;simp only at hr;have OO:(x,c)∈Hd left aca:=fO.2 ⟨ql,hlx⟩;have hd:=Cs (l:=Hd left aca) ((Z HS).filter _) OO;simp only at hd;have jw:=(qX (l:=del x (Hd left aca)) (λy hy=>by
    have:=(Z OM) y (fO.1 (nJ.1 hy).1).1;omega)).1
   have hp:=cy c;have xc:=lB c hr.2.2.1 hr.2.2.2;have Gp:=Z hq;have hst:=I (Hf left aca x);obtain⟨c0,c6⟩:=hr.2.2;have iy:(2:Int)^c.toNat=pw c:=rfl;have HQ:=I (show q+pw c+fS (del x (Hd left aca))=fS aca by omega);generalize pw c=d at*;clear hat ql OO hd hr;have hq3:q+d<=16384:=by have:=Z HQ;omega
   go_wp2;go_roundw;case rel=>exact⟨_,cnt1,q+d,by go_num,by omega,hrg1,by show _=_;rw[Z hst];exact Z HQ,jP.grown hg1 jP.size (λj E=>by cases E;exact ζ _)⟩
   case measure=>rw[hrg1.left_eq,hrg.left_eq];exact hlt
end Bd
open Go.Lib
namespace Sb
variable {w:World}{g:Nat}{cur:Array Value}{e:TypeId}
theorem xF {fz:Nat×Nat}(h:w.heap[g]?=some (.cells cur e fz))(o:Nat)(v:Value):(w.setCell ⟨g,o,none⟩ v).heap[g]?=some (.cells (cur.setIfInBounds o v) e fz):=by
 simp only[World.setCell,fU,h];simp
theorem fD (g:Nat)(e:TypeId)(fz:Nat×Nat):∀(vs:List Value) (o:Nat) (w:World) (cur:Array Value),w.heap[g]?=some (.cells cur e fz) ->
  ∃cur',(w.setCells g o vs).heap[g]?=some (.cells cur' e fz)/\cur'.size=cur.size/\∀j,cur'[j]?=if o<=j/\j<o+vs.length/\j<cur.size then vs[j-o]? else cur[j]?
 |[],o,w,cur,h=>⟨cur,h,rfl,λj=>by rw[ai (by simp;omega)]⟩
 |v::r,o,w,cur,h=>by
  obtain⟨cur',G,O,h3⟩:=fD g e fz r (o+1) (w.setCell ⟨g,o,none⟩ v) _ (xF h o v);refine⟨cur',G,by rw[O];simp,λj=>?_⟩;rw[h3 j];simp only[Array.size_setIfInBounds,bk,Array.getElem?_setIfInBounds];by_cases E:j=o
  ·subst E;rw[ai (by omega)];by_cases hs:j<cur.size
   ·rw[af rfl,af hs,af (by omega)];simp
   ·rw[af rfl,ai hs,ai (by omega),cx (by omega)]
  ·rw[ai (cV E)];by_cases K:o+1<=j/\j<o+1+r.length/\j<cur.size
   ·rw[af K,af (by omega)];obtain⟨d,rfl⟩:∃d,j=o+1+d:=⟨j-o-1,by omega⟩;rw[show o+1+d-(o+1)=d by omega,show o+1+d-o=d+1 by omega,ω]
   ·rw[ai K,ai (by omega)]
theorem eK (g:Nat):∀(vs:List Value) (o:Nat) (w:World),w.grownBy (w.setCells g o vs) (some g)
 |[],_,w=>⟨rfl,rfl,rfl,ζ _,λ_ _ _=>rfl⟩
 |v::r,o,w=>by
  have h:=eK g r (o+1) (w.setCell ⟨g,o,none⟩ v);have hsz:(w.setCell ⟨g,o,none⟩ v).heap.size=w.heap.size:=by simp[World.setCell]
  exact⟨h.os,h.tape,h.output,σ (Nat.le_of_eq (hsz.symm)) h.size,λk D hne=>(h.block k (by rw[hsz];exact D) hne).trans (μ _ _ _ _ (λe=>hne (by rw[e])))⟩
theorem rA (w:World)(row:Option Nat):w.grownBy w.drew row:=⟨rfl,rfl,rfl,ζ _,λ_ _ _=>rfl⟩
theorem jH {w' w2:World}{row:Option Nat}(h:w.grownBy w' row)(O:w'.grownBy w2 row):w.grownBy w2 row :=
 ⟨O.os.trans h.os,O.tape.trans h.tape,O.output.trans h.output,σ h.size O.size,λk D hne=>(O.block k (ι D h.size) hne).trans (h.block k D hne)⟩
theorem Az {N0 n d:Nat}{xs:List Value}(hg:w.heap[g]?=some (.cells cur e (0,0)))(hN:N0<=g)(hd:n<=d)(hm:d<=maxLen)(hs:cur.size=d)(hl:xs.length=n)(K:∀j,j<n->cur[j]?=xs[j]?):
  w.ownsRow N0 e 1 (.slice (some ⟨g,0,none⟩) n d) n xs:=by
 refine⟨by omega,δ ⟨g,d,cur,rfl,hN,hg,hd,hm,by omega,?_⟩⟩;apply dN;intro j;rw[gq,eN];split
 ·rename_i E;rw[<- K j E];simp
 ·rw[eQ (by omega)]
theorem AA (N0:Nat)(p:Option Addr)(n d k vb:Nat)(cs:List Value)(x:Value)(w:World)(h:w.ownsRow N0 288 1 (.slice p n d) n cs)(D:k<=n)(hn:n<=100000)(hN:N0<=w.heap.size)
  (hx:w.heap[vb]?=some (.cells #[x] 288 (0,0)))(TL:∀g o,p=some ⟨g,o,none⟩->vb≠g)(h1c:∀v∈cs,v.oneCell'=true)(OX:x.oneCell'=true):
  Calls prog 234 #[.slice p n d,.int .i64 k,.slice (some ⟨vb,0,none⟩) 1 1] w λev w'=>∃p' d',ev=.returned (.slice p' (n+1) d')/\w'.ownsRow N0 288 1 (.slice p' (n+1) d') (n+1) (ins cs k x)/\w.grownBy w' (Value.slice p n d).ownBlock:=by
 have eR:cs.length=n:=by have:=h.1;omega
 have hv:w.cell? ⟨vb,0,none⟩=some x:=by rw[cell_of_row w vb 0 _ _ _ hx];rfl
 by_cases vh:k=n
 ·subst vh;have e1:ins cs k x=cs++[x]:=by unfold ins;rw[<- eR,b_,List.drop_length]
  rw[e1];obtain⟨i0,eO,hz0,hzs,hzb⟩:=Im;have H:Hid (∀v' w',w'.ownsRow N0 288 1 v' (k+1) (cs++[x])->w.grownBy w' (Value.slice p k d).ownBlock->∃p' d',Ending.returned v'=.returned (.slice p' (k+1) d')/\w'.ownsRow N0 288 1 (.slice p' (k+1) d') (k+1) (cs++[x])/\w.grownBy w' (Value.slice p k d).ownBlock):=λv' w' G O=>by
   have UJ:=G;rcases G.2 with⟨_,h3⟩|⟨g,cap,cur,rfl,_⟩
   ·omega
   ·exact⟨_,_,rfl,UJ,O⟩
  have hnews:∀j u,[x][j]?=some u->w.cell? ((⟨vb,0,none⟩:Addr).add j)=some u:=λj u E=>by
   obtain rfl:j=0:=by rcases j with _|j<;>simp at E ⊢
   rw[gF];simp at E;subst E;exact hv
  have HI:=I eO;have HZ:=I hz0;have eI:=I hzs;have eJ:=I hzb;have HO:=I h;obtain⟨ob,sO⟩:∃ob,(Value.slice p k d).ownBlock=ob:=⟨_,rfl⟩;have HG:=I (λw' (g1:w.grownBy w' (Value.slice p k d).ownBlock)=>(by rw[sO]at g1;exact g1:w.grownBy w' ob));rw[sO]at H ⊢;have Io:=I hnews;clear eO hz0 hzs hzb h hnews sO;by_cases hd:d=k
  ·subst hd;go_enter func234,ntmps234;go_wp2_with (at_builtin;refine Ω _ rfl _ _ 246 rfl N0 288 i0 (.pointer none) 1 8 underlying246 (Z HI) (Z HZ) (Z eI) (Z eJ) rfl (by decide) _ _ cs rfl (Z HO) ⟨vb,0,none⟩ 1 1 [x] rfl rfl (Z Io) (λu hu=>by simp at hu;subst hu;exact OX) (by unfold maxLen;omega) (by omega) hN ?_;intro v' w' o1 g1 _);go_ret;exact(Z H) _ _ o1 ((Z HG) _ g1)
  ·go_enter func234,ntmps234;go_wp2_with (at_builtin;refine Ω _ rfl _ _ 246 rfl N0 288 i0 (.pointer none) 1 8 underlying246 (Z HI) (Z HZ) (Z eI) (Z eJ) rfl (by decide) _ k cs rfl (Z HO) ⟨vb,0,none⟩ 1 1 [x] rfl rfl (Z Io) (λu hu=>by simp at hu;subst hu;exact OX) (by unfold maxLen;omega) (by omega) hN ?_;intro v' w' o1 g1 _);go_ret;exact(Z H) _ _ o1 ((Z HG) _ g1)
 ·have Vw:k<n:=by omega
  obtain⟨hl,hh⟩:=h;rcases hh with⟨_,h0⟩|⟨g,cap,cur,hv',hNg,hg,gB,sG,hsz,kV⟩
  ·omega
  ·simp only[ψ,aZ]at hv';obtain⟨rfl,rfl⟩:=hv';have Ip:∀j,j<n->cur[j]?=cs[j]?:=λj E=>by
    rw[<- kV,gq,eN,af E];simp
   have hcell:∀j,w.cell? ⟨g,j,none⟩=cur[j]?:=λj=>cell_of_row w g j cur 288 (0,0) hg;have hcs:∀j v,cs[j]?=some v->w.cell? ⟨g,j,none⟩=some v:=λj v E=>by
    rw[hcell,Ip j (by have:=(ν.mp E).1;omega)];exact E
   have hvg:=TL g 0 rfl;have hlx:(ins cs k x).length=n+1:=by rw[ek,eR]
   by_cases hroom:n+1<=d
   ·refine(vv g n d k vb cs x w Vw hroom (by unfold maxLen at sG;omega) hvg eR hcs (λj E=>?_) (λj=>?_) hv h1c OX 288 288 1 d ?_ ?_ (by omega) ?_ ?_).mono ?_
    ·rw[hcell,Array.getElem?_eq_getElem (by omega)];rfl
    ·simp[World.frozen?,hg]
    ·simp[World.shape?,hx]
    ·simp[World.shape?,hg];omega
    ·simp[World.frozen?,hx]
    ·simp[World.frozen?,hx]
    ·rintro ev w'⟨rfl,rfl⟩;obtain⟨c1,a1,a2,a3⟩:=fD g 288 (0,0) (cs.drop k) (k+1) w.drew cur hg;obtain⟨c2,b1,b2,b3⟩:=fD g 288 (0,0) [x] k _ c1 a1;refine⟨_,_,rfl,Az b1 hNg hroom sG (by omega) hlx (λj E=>?_),?_⟩
     ·rw[b3 j,a3 j,cF x (by omega) j];simp only[ag,dW,eR];by_cases G:j<k
      ·rw[ai (by omega),ai (by omega),af G,Ip j (by omega)]
      ·by_cases O:j=k
       ·subst O;rw[af (by omega),ai G,af rfl];simp
       ·rw[ai (by omega),af (by omega),ai G,ai O,cP];congr 1;omega
     ·exact jH (jH (rA w _) (eK g _ _ _)) (eK g _ _ _)
   ·refine(xE g n d k vb cs x w Vw gB (by omega) hn eR hcs hv h1c OX).mono ?_;rintro ev w'⟨rfl,rfl⟩;have oG:=grownCap_ge w (n+1) d 288;have hle:=grownCap_le_maxLen w (n+1) d 288 (by unfold maxLen;omega);generalize grownCap w (n+1) d 288=ab3 at*;obtain⟨ROW,Ay⟩:∃ROW:Array Value,ROW=(cs.take k).toArray++Builtin.zeroCells (Value.pointer none).cells (n+1-k)++Builtin.zeroCells (Value.pointer none).cells (ab3-(n+1)):=⟨_,rfl⟩;rw[<- Ay];have hRs:ROW.size=ab3:=by
     rw[Ay];simp[Builtin.zeroCells,Value.cells];omega
    have hRc:∀j,j<k->ROW[j]?=cs[j]?:=λj E=>by
     have hlt:(cs.take k).length=k:=by simp;omega
     rw[Ay,Array.append_assoc,Array.getElem?_append_left (by simp;omega)];simp[E]
    have gY:(w.alloc (.cells ROW 288)).heap[w.heap.size]?=some (.cells ROW 288 (0,0)):=heap_alloc_new w _;obtain⟨c1,a1,a2,a3⟩:=fD w.heap.size 288 (0,0) [x] k (w.alloc (.cells ROW 288)).drew ROW gY;obtain⟨c2,b1,b2,b3⟩:=fD w.heap.size 288 (0,0) (cs.drop k) (k+1) ((w.alloc (.cells ROW 288)).drew.setCells w.heap.size k [x]).drew c1 a1;refine⟨_,_,rfl,Az b1 hN oG hle (by omega) hlx (λj E=>?_),?_⟩
    ·rw[b3 j,a3 j,cF x (by omega) j];simp only[ag,dW,eR];by_cases G:j<k
     ·rw[ai (by omega),ai (by omega),af G,hRc j G]
     ·by_cases O:j=k
      ·subst O;rw[ai (by omega),af (by omega),ai G,af rfl];simp
      ·rw[af (by omega),ai G,ai O,cP];congr 1;omega
    ·have q1:=World.grownBy_alloc w (.cells ROW 288) (Value.slice (some ⟨g,0,none⟩) n d).ownBlock;have q2:=eK w.heap.size [x] k (w.alloc (.cells ROW 288)).drew;have q3:=eK w.heap.size (cs.drop k) (k+1) ((w.alloc (.cells ROW 288)).drew.setCells w.heap.size k [x]).drew;refine⟨q3.os.trans (q2.os.trans q1.os),q3.tape.trans (q2.tape.trans q1.tape),q3.output.trans (q2.output.trans q1.output),σ q1.size (σ q2.size q3.size),λj E hne=>?_⟩;have Vc:some j≠some w.heap.size:=by simp;omega
     have s1:=q1.size;have s2:=q2.size;exact(q3.block j (ι E (σ s1 s2)) Vc).trans ((q2.block j (ι E s1) Vc).trans (q1.block j E hne))
end Sb
end Go.Proofs.YtcbmfakjfoggaaaGreatDoor
namespace Go.Proofs.YtcbmfakjfoggaaaGreatDoor
open Go.Maps _root_.Go.Proofs.Tryz Go.RowKit
namespace Sb
open Fr Bd
theorem MA (x:Nat)(i:Nat)(hx:x<18446744073709551616):(bits .and .u64 ((x:Int)/2^i) 1==1)=x.testBit i:=by
 have e:(x:Int)/2^i=((x/2^i:Nat):Int):=by push_cast;rfl
 have hl:x/2^i<18446744073709551616:=eM (Nat.div_le_self _ _) hx;rw[e,show(1:Int)=((1:Nat):Int)from rfl,bits_and_u64_nat _ _ hl (by omega),nat_mask1,Md];cases x.testBit i<;>simp
theorem vy (b i x:Nat)(w:World)(h3:w.cell? ⟨b,3,none⟩=some (.int .u64 x))(hi:i<64)(hx:x<18446744073709551616):
  Calls prog 214 #[ptr b,.int .i64 i] w λev w'=>ev=.returned (.bool (x.testBit i))/\w'=w:=by
 have J:=MA x i hx;unfold ptr;go_enter func214,ntmps214;go_wp2;go_ret;exact⟨rfl,rfl⟩
theorem CK (c:Nat)(sz:Int)(w:World)(G:w.cell? ⟨c,1,none⟩=some (.int .i64 sz))(h:1<=sz)(h64:sz<=64):
  Calls prog 219 #[ptr c] w λev w'=>ev=.returned (.int .i64 (64/sz))/\w'=w:=by
 unfold ptr;go_enter func219,ntmps219;go_wp2;go_ret;exact⟨rfl,rfl⟩
end Sb
open Go.Lib
namespace Mg
open Sb
theorem I6:(prog.info? 175).map (λi=>(i.zero,i.size,i.bytes))=some (some (.pointer none),1,8):=by kernel_rfl
theorem CV:∃i0,prog.info? 175=some i0/\i0.zero=some (.pointer none)/\i0.size=1/\i0.bytes=8:=by
 have h:=I6;cases hi:prog.info? 175 with
 |none=>rw[hi]at h;cases h
 |some i0 =>
  rw[hi]at h;simp only[Option.map_some,τ,fR]at h;exact⟨i0,rfl,h.1,h.2.1,h.2.2⟩
theorem E_ (g n c k:Nat)(cs:List Value)(w:World)(D:k<n)(gB:n<=c)(_hm:c<=9223372036854775807)(eR:cs.length=n)
  (hcs:∀j v,cs[j]?=some v->w.cell? ⟨g,j,none⟩=some v)(hfz:∀j,w.frozen? ⟨g,j,none⟩=false)(h1c:∀v∈cs,v.oneCell'=true):
  Calls prog 168 #[.slice (some ⟨g,0,none⟩) n c,.int .i64 k,.int .i64 ((k:Int)+1)] w λe w'=>e=.returned (.slice (some ⟨g,0,none⟩) (n-1) c)/\w'=(w.drew.setCells g k (cs.drop (k+1))).setCells g (n-1) [.pointer none]:=by
 have mixed:prog.follows .mixedOrders=true:=by kernel_rfl
 obtain⟨i0,eO,hz0,hz1,hz2⟩:=CV;have hlt:(k:Int)≠(k:Int)+1:=by omega
 obtain⟨news,hnews⟩:∃news,news=cs.drop (k+1):=⟨_,rfl⟩;have hlen:news.length=n-(k+1):=by rw[hnews];simp[eR]
 have Wf:∀t u,news[t]?=some u->w.cell? ⟨g,k+1+t,none⟩=some u:=λt u hu=>by
  rw[hnews,cP]at hu;exact hcs _ _ hu
 have hsome:∀j,j<n->(w.cell? ⟨g,j,none⟩).isSome=true:=λj E=>by
  rw[hcs j _ (ξ (by omega))];rfl
 obtain⟨A,hA,aaK⟩:∃A:Addr,(if c=k+1 then some (⟨g,0,none⟩:Addr)else some ⟨g,k+1,none⟩)=some A/\Hid (∀t u,news[t]?=some u->w.drew.cell? (A.add t)=some u):=by
  by_cases h:c=k+1
  ·refine⟨⟨g,0,none⟩,by simp[h],λt u hu=>?_⟩;have h0:news.length=0:=by rw[hlen];omega
   rw[bf.1 h0]at hu;simp at hu
  ·refine⟨⟨g,k+1,none⟩,by simp[h],λt u hu=>?_⟩;rw[gF];exact Wf t u hu
 have s1:Hid (news.length=(n-(k+1))*1):=by rw[gq];exact hlen
 have s2:Hid (∀u∈news,u.oneCell'=true):=by
  intro u hu;rw[hnews]at hu;exact h1c u (dH hu)
 have s3:Hid (∀t,t<news.length->(w.drew.cell? ⟨g,0+k*1+t,none⟩).isSome=true/\w.drew.frozen? ⟨g,0+k*1+t,none⟩=false):=by
  intro t ht;rw[hlen]at ht;exact⟨hsome _ (by omega),hfz _⟩
 obtain⟨W1,hW1⟩:∃W1,W1=w.drew.setCells g (0+k*1) news:=⟨_,rfl⟩;have hc1:∀j,j<n->(W1.cell? ⟨g,j,none⟩).isSome=true:=λj E=>by
  rw[hW1];exact isSome_setCells g _ _ w.drew (λt ht=>hsome _ (by rw[hlen]at ht;omega)) _ (hsome j E)
 have Gl:∀j,W1.frozen? ⟨g,j,none⟩=false:=λj=>by rw[hW1,fI];exact hfz j
 have RH:∀ty,(Builtin.clear_ #[180] ty #[.slice (some ⟨g,k+(n-(k+1)),none⟩) (n-(k+(n-(k+1)))) (c-(k+(n-(k+1))))]).run prog W1=.ok (.tuple #[]) (W1.setCells g (k+(n-(k+1))) (List.replicate (n-(k+(n-(k+1)))) (.pointer none))):=
  λty=>Lib.run_clear_slice W1 _ _ ty _ underlying180 Tryz.zeroValue175 rfl rfl g (k+(n-(k+1))) _ _ (by omega) (λt ht=>hc1 _ (by omega)) (λt ht=>Gl _)
 have hW:Hid (W1=w.drew.setCells g (0+k*1) news):=hW1;have HN:Hid (news=cs.drop (k+1)):=hnews;have hic:k<=c:=by omega
 have hjc:k+1<=c:=by omega
 have EM:((k:Int)+1).toNat=k+1:=by omega
 have hb1:(0:Int)<=(k:Int)+1:=by omega
 have hb2:(k:Int)<=(k:Int)+1:=by omega
 have hb3:(k:Int)+1<=(n:Int):=by omega
 clear hW1 hcs Wf hnews hlen hsome hc1 Gl;go_enter func168,ntmps168;go_wp2_with fail;go_region_law_o (refine step_append_room rfl (.tmp 22) (.tmp 25) 180 rfl 175 i0 1 underlying180 eO hz1 g 0 k c (by simp[Act.eval,Act.put]) A (n-(k+1)) (c-(k+1)) news (by simp[Act.eval,Act.put]) s1.out aaK.out s2.out (by omega) s3.out ?_;rw[<- hW.out]);go_wp2;go_ret;refine⟨by rw[show n-1=k+(n-(k+1)) by omega];rfl,?_⟩;rw[hW.out,HN.out,show n-(k+(n-(k+1)))=1 by omega,show k+(n-(k+1))=n-1 by omega,show 0+k*1=k by omega];rfl
theorem I7 (N0:Nat)(p:Option Addr)(n d k:Nat)(cs:List Value)(w:World)(h:w.ownsRow N0 175 1 (.slice p n d) n cs)(D:k<n)(h1c:∀v∈cs,v.oneCell'=true):
  Calls prog 168 #[.slice p n d,.int .i64 k,.int .i64 ((k:Int)+1)] w λev w'=>ev=.returned (.slice p (n-1) d)/\w'.ownsRow N0 175 1 (.slice p (n-1) d) (n-1) (cs.eraseIdx k)/\w.grownBy w' (Value.slice p n d).ownBlock:=by
 have eR:cs.length=n:=by have:=h.1;omega
 obtain⟨hl,hh⟩:=h;rcases hh with⟨_,h0⟩|⟨g,cap,cur,hv',hNg,hg,gB,sG,hsz,kV⟩
 ·omega
 ·simp only[ψ,aZ]at hv';obtain⟨rfl,rfl⟩:=hv';have Ip:∀j,j<n->cur[j]?=cs[j]?:=λj E=>by
   rw[<- kV,gq,eN,af E];simp
  have hcell:∀j,w.cell? ⟨g,j,none⟩=cur[j]?:=λj=>cell_of_row w g j cur 175 (0,0) hg;have hcs:∀j v,cs[j]?=some v->w.cell? ⟨g,j,none⟩=some v:=λj v E=>by
   rw[hcell,Ip j (by have:=(ν.mp E).1;omega)];exact E
  refine(E_ g n d k cs w D gB (by unfold maxLen at sG;omega) eR hcs (λj=>by simp[World.frozen?,hg]) h1c).mono ?_;rintro ev w'⟨rfl,rfl⟩;obtain⟨c1,a1,a2,a3⟩:=fD g 175 (0,0) (cs.drop (k+1)) k w.drew cur hg;obtain⟨c2,b1,b2,b3⟩:=fD g 175 (0,0) [.pointer none] (n-1) _ c1 a1;refine⟨rfl,Az b1 hNg (by omega) sG (by omega) (by rw[List.length_eraseIdx];simp[eR,D]) (λj E=>?_),jH (jH (rA w _) (eK g _ _ _)) (eK g _ _ _)⟩;rw[b3 j,a3 j,List.getElem?_eraseIdx];simp only[ag,dW,eR];rw[ai (by omega)];by_cases G:j<k
  ·rw[ai (by omega),af G,Ip j (by omega)]
  ·rw[af (by omega),ai G,cP];congr 1;omega
end Mg
end Go.Proofs.YtcbmfakjfoggaaaGreatDoor
