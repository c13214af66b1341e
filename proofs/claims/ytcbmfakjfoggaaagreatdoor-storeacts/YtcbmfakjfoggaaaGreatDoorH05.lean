/- H05 -/
import Derived.Test.YtcbmfakjfoggaaaGreatDoorA0
import Derived.Test.YtcbmfakjfoggaaaGreatDoorH00
import Derived.Test.YtcbmfakjfoggaaaGreatDoorH02
set_option maxHeartbeats 0
namespace Go.Proofs.YtcbmfakjfoggaaaGreatDoor
open Go.Maps _root_.Go.Proofs.Tryz Go.RowKit
namespace Fr
theorem xa (a r j:Int)(j0:0<=j)(j5:j<=5)(hr:1<=r)(hr2:r<=256):cond a r (j+1)=(al a (j+1)&&decide (0<r/pw (j+1))):=by
 unfold cond;congr 1;rcases orders j j0 (by omega)with rfl|rfl|rfl|rfl|rfl|rfl|rfl
 all_goals first|omega|skip
 all_goals
  simp only[Int.reduceAdd,Ol,Om,Oo,GI,GJ,Qx];rw[decide_eq_decide];omega
theorem Ef (a t:Int)(w:World)(h0:0<=a)(G:a<t)(O:t<=256):Calls prog 246 #[.int .i64 a,.int .i64 t] w λev w'=>ev=.returned (.int .i64 (wid a (t-a)))/\w'=w:=by
 go_enter func246,ntmps246;go_wp2;go_loop [5] (λk=>∃j:Int,0<=j/\j<=6/\Hid (upto a (t-a) j)/\k=.int .i64 j) (λk=>6-(intOf k).toNat);case atStart=>exact⟨0,by omega,by omega,tE _ _,rfl⟩
 case round =>
  obtain⟨j,j0,j6,hu,rfl⟩:=hrel;by_cases K:j<=5/\cond a (t-a) (j+1)=true
  ·obtain⟨j5,K⟩:=K;have HC:=I K;rw[xa a (t-a) j j0 j5 (by omega) (by omega)]at K;simp only[eG,dh]at K;obtain⟨ha,hs⟩:=K;unfold al at ha;rcases orders j j0 (by omega)with rfl|rfl|rfl|rfl|rfl|rfl|rfl
   all_goals first|omega|skip
   all_goals
    simp only[Int.reduceAdd,Ol,Om,Oo,GI,GJ,Qx]at ha hs;clear j0 j6 j5;go_wp2;go_round;case rel=>exact⟨_,by omega,by omega,tF (Z hu) (Z HC),rfl⟩
    case measure=>simp[intOf]
  ·have hw:wid a (t-a)=j:=GL (Z hu) j0 j6 (by
    by_cases h6:j=6
    ·exact ε h6
    ·right;have:=λh=>K ⟨by omega,h⟩;simpa using this)
   have HW:=I hw;clear hw;by_cases h6:j=6
   ·subst h6;clear K;go_wp2;go_ret;exact⟨by rw[Z HW];rfl,rfl⟩
   ·have hc2:cond a (t-a) (j+1)=false:=by
     have:=λh=>K ⟨by omega,h⟩;simpa using this
    rw[xa a (t-a) j j0 (by omega) (by omega) (by omega)]at hc2;clear K;by_cases ha:al a (j+1)=true
    ·rw[ha]at hc2;simp only[Bool.true_and]at hc2;unfold al at ha;rcases orders j j0 (by omega)with rfl|rfl|rfl|rfl|rfl|rfl|rfl
     all_goals first|omega|skip
     all_goals
      simp only[Int.reduceAdd,Ol,Om,Oo,GI,GJ,Qx]at ha hc2;clear j0 j6 h6;go_wp2;go_ret;exact⟨by rw[Z HW];rfl,rfl⟩
    ·have ha2:al a (j+1)=false:=by simpa using ha
     clear hc2 ha;unfold al at ha2;rcases orders j j0 (by omega)with rfl|rfl|rfl|rfl|rfl|rfl|rfl
     all_goals first|omega|skip
     all_goals
      simp only[Int.reduceAdd,Ol,Om,Oo,GI,GJ,Qx]at ha2;clear j0 j6 h6;go_wp2;go_ret;exact⟨by rw[Z HW];rfl,rfl⟩
theorem oU:(prog.info? 291).map (λi=>(i.zero,i.size,i.bytes))=some (some (.agg #[.int .i64 0,.int .i64 0]),2,16):=by kernel_rfl
theorem bL {w:World}{base e size:Nat}{v:Value}{n:Nat}{xs:List Value}(h:w.ownsRow base e size v n xs):∀k,v.ownBlock=some k->base<=k:=λk D=>by
 rcases h.2 with⟨rfl,_⟩|⟨g,cap,cur,rfl,J,_⟩
 ·simp[Value.ownBlock]at D
 ·simp[Value.ownBlock]at D;omega
theorem nP {w wr w1:World}{b v':Value}{ab8 L:List (Int×Int)}{x t:Int}(hx:x<t)(hL:ab8++cv x (t-x)=L)(hown:wr.ownsRow w.heap.size 291 2 b ab8.length (flat ab8))(J:Below w.heap.size w wr)
  (hown':w1.ownsRow w.heap.size 291 2 v' (ab8.length+1) (flat ab8++[.int .i64 x,.int .i64 (wid x (t-x))])){o:Obj}(hg:(wr.alloc o).grownBy w1 b.ownBlock)(_hn:v'=.slice none 0 0↔b=.slice none 0 0/\1=0):
  ((ab8++[(x,wid x (t-x))])++cv (x+pw (wid x (t-x))) (t-(x+pw (wid x (t-x))))=L)/\w1.ownsRow w.heap.size 291 2 v' (ab8++[(x,wid x (t-x))]).length (flat (ab8++[(x,wid x (t-x))]))/\Below w.heap.size w w1/\(ab8++[(x,wid x (t-x))]=[]->v'=.slice none 0 0):=by
 refine⟨?_,?_,?_,λh=>by simp at h⟩
 ·rw[uN x (t-x) (by omega)]at hL;rw[show t-(x+pw (wid x (t-x)))=t-x-pw (wid x (t-x))from by omega];simpa using hL
 ·rw[dP];simpa using hown'
 ·exact(χ J o).grown hg (by have:=J.size;simp;omega) (bL hown)
theorem GY (a n:Int)(w:World)(h0:0<=a)(hn:0<=n)(O:a+n<=256):
  Calls prog 195 #[.int .i64 a,.int .i64 n] w λev w'=>∃v,ev=.returned (.tuple #[v,.nilIface])/\w'.ownsRow w.heap.size 291 2 v (cv a n).length (flat (cv a n))/\Below w.heap.size w w'/\(cv a n=[]->v=.slice none 0 0):=by
 obtain⟨i0,hi,hz0,hz1,hz2⟩:=aY oU;have d1:decide (a<0)=false:=by simp;omega
 have d2:decide (256<a)=false:=by simp;omega
 have d3:decide (n<0)=false:=by simp;omega
 have d4:decide (256-a<n)=false:=by simp;omega
 have hlen:(cv a n).length<=256:=by have:=oO a n;omega
 have hat:a<=a+n:=by omega
 have hL:[]++cv a (a+n-a)=cv a n:=by rw[show a+n-a=n from by omega];rfl
 generalize cv a n=L at*;have HL:=I hL;have HI:=I hi;have HZ:=I hz0;have eI:=I hz1;have eJ:=I hz2;clear hL hi hz0 hz1 hz2;go_enter func195,ntmps195;go_wp2_with fail;clear d1 d2 d3 d4;generalize ht:a+n=t at*;clear ht;go_loopw [0,6] (λp b wr=>∃(x:Int) (ab8:List (Int×Int)),p=.int .i64 x/\0<=x/\x<=t/\Hid (ab8++cv x (t-x)=L)/\wr.ownsRow w.heap.size 291 2 b ab8.length (flat ab8)/\Below w.heap.size w wr/\Hid (ab8=[]->b=.slice none 0 0)) (λp _ _=>(t-intOf p).toNat)
 case atStart=>exact⟨a,[],rfl,h0,by omega,HL,Ξ _ _ _ _,γ _ _,λ_=>rfl⟩
 case round =>
  obtain⟨x,ab8,rfl,x0,xt,hD,hown,J,hnil⟩:=hrel;by_cases hlt:x<t
  ·have pV:ab8.length<=256:=by
    have:=ba List.length (Z hD);simp at this;omega
   have hw:=iw x (t-x) (by omega);have hp:=cy (wid x (t-x));have xc:=lB (wid x (t-x)) hw.1 hw.2.1;have HW:=I (Ef x t);have HS:=λv' w1 o G O h3=>I (nP (L:=L) (v':=v') (w1:=w1) (o:=o) hlt (Z hD) hown J G O h3);generalize wid x (t-x)=k at*;have iy:(2:Int)^k.toNat=pw k:=rfl;obtain⟨k0,k6,_,kr⟩:=hw;generalize pw k=d at*;go_wp2_with fail;refine((Z HW) _ x0 hlt O).mono ?_;rintro ev w2⟨rfl,rfl⟩;go_wp2_with (at_builtin;refine Ω _ rfl (.tmp 35) (.tmp 39) 322 rfl w.heap.size 291 i0 (.agg #[.int .i64 0,.int .i64 0]) 2 16 underlying322 (Z HI) (Z HZ) (Z eI) (Z eJ) rfl (by decide) _ _ _ rfl (hown.alloc _) ⟨w2.heap.size,0,none⟩ 1 1 [.int .i64 x,.int .i64 k] rfl rfl ?c1 ?c2 ?c3 ?c4 ?c5 ?_);case c1 =>
    intro j u E
    match j,E with
    |0,E=>simp at E;subst E;simp[Addr.add]
    |1,E=>simp at E;subst E;simp[Addr.add]
   case c2 =>
    intro u hu;simp at hu;rcases hu with rfl|rfl<;>rfl
   case c3=>unfold maxLen;omega
   case c4=>omega
   case c5=>have:=J.size;simp;omega
   intro v' w1 hown' hgrow kP;have R:=I ((Z (HS v' w1 _ hown' hgrow (by simpa using kP))));clear hown' hgrow kP hown J;go_wp2_with fail;go_roundw;case rel =>
    have R:=Z R;exact⟨x+d,ab8++[(x,k)],rfl,by omega,by omega,R.1,R.2.1,R.2.2.1,R.2.2.2⟩
   case measure=>simp[intOf];omega
  ·have Lv:x=t:=by omega
   have UO:ab8=L:=by
    have:=Z hD;rw[zH _ _ (by omega)]at this;simpa using this
   have xd:wr.ownsRow w.heap.size 291 2 u6 L.length (flat L)/\(L=[]->u6=.slice none 0 0):=by rw[<- UO];exact⟨hown,Z hnil⟩
   have HF:=I xd;clear xd UO hown hnil hD;go_wp2_with fail;go_ret2;exact⟨_,rfl,(Z HF).1,J,(Z HF).2⟩
end Fr
namespace Sb
theorem iD (a b:Nat)(h:a+b<18446744073709551616):IntKind.u64.wrap ((a:Int)+(b:Int))=((a+b:Nat):Int):=by
 rw[IntKind.wrap_u64];omega
theorem oc (a b:Nat)(ha:a<18446744073709551616)(J:b<18446744073709551616):bits .and .u64 (a:Int) (b:Int)=((a &&& b:Nat):Int):=bits_and_u64_nat a b ha J
theorem MB (a:Nat)(ha:a<9223372036854775808):bits .and .i64 (a:Int) 127=((a%128:Nat):Int):=by
 have G:(BitVec.ofInt 64 (a:Int)).toNat=a:=by
  rw[BitVec.ofInt_natCast,BitVec.toNat_ofNat];exact Nat.mod_eq_of_lt (by omega)
 have O:(BitVec.ofInt 64 (127:Int)).toNat=127:=by decide
 show IntKind.i64.wrap ((BitVec.ofInt 64 (a:Int) &&& BitVec.ofInt 64 (127:Int)).toNat:Int)=_;rw[BitVec.toNat_and,G,O,show(127:Nat)=2^7-1 from rfl,Nat.and_two_pow_sub_one_eq_mod,IntKind.wrap_i64];omega
theorem MC (x:Nat)(w:World)(hx:x<18446744073709551616):
  Calls prog 218 #[.int .u64 x] w λev w'=>ev=.returned (.int .i64 (pop x 64))/\w'=w:=by
 have hm5:mk 4 5 16=6148914691236517205:=by decide +kernel
 have hm3:mk 4 3 16=3689348814741910323:=by decide +kernel
 have TP:mk 8 15 8=1085102592571150095:=by decide +kernel
 obtain⟨a1,ha1⟩:∃a:Nat,a=x/2 &&& 6148914691236517205:=⟨_,rfl⟩;obtain⟨b1,hb1⟩:∃a:Nat,a=x &&& 6148914691236517205:=⟨_,rfl⟩;obtain⟨y1,wK⟩:∃a:Nat,a=a1+b1:=⟨_,rfl⟩;obtain⟨a2,ha2⟩:∃a:Nat,a=y1/4 &&& 3689348814741910323:=⟨_,rfl⟩;obtain⟨b2,hb2⟩:∃a:Nat,a=y1 &&& 3689348814741910323:=⟨_,rfl⟩;obtain⟨y2,uV⟩:∃a:Nat,a=a2+b2:=⟨_,rfl⟩;obtain⟨s2,hs2⟩:∃a:Nat,a=y2/16+y2:=⟨_,rfl⟩;obtain⟨y3,YO⟩:∃a:Nat,a=s2 &&& 1085102592571150095:=⟨_,rfl⟩;obtain⟨y4,hy4⟩:∃a:Nat,a=y3+y3/256:=⟨_,rfl⟩;obtain⟨y5,hy5⟩:∃a:Nat,a=y4+y4/65536:=⟨_,rfl⟩;obtain⟨y6,hy6⟩:∃a:Nat,a=y5+y5/4294967296:=⟨_,rfl⟩;have e1:y1=f1 16 x:=by rw[wK,ha1,hb1];simp only[f1,hm5]
 have e2:y2=f2 16 x:=by rw[uV,ha2,hb2,e1];simp only[f2,hm3]
 have e3:y3=f3 8 (f2 16 x):=by rw[YO,hs2,e2];simp only[f3,TP]
 obtain⟨hend,hl6⟩:=Hq x y3 e3 y4 y5 y6 hy4 hy5 hy6;have la1:a1<=6148914691236517205:=by rw[ha1];exact gH
 have lb1:b1<=6148914691236517205:=by rw[hb1];exact gH
 have la2:a2<=3689348814741910323:=by rw[ha2];exact gH
 have lb2:b2<=3689348814741910323:=by rw[hb2];exact gH
 have q1:bits .and .u64 ((x:Int)/2) 6148914691236517205=(a1:Int):=by
  rw[ha1,show((x:Int)/2)=((x/2:Nat):Int) by omega];exact oc (x/2) 6148914691236517205 (by omega) (by decide)
 have q2:bits .and .u64 (x:Int) 6148914691236517205=(b1:Int):=by rw[hb1];exact oc x 6148914691236517205 hx (by decide)
 have q3:IntKind.u64.wrap ((a1:Int)+(b1:Int))=(y1:Int):=by rw[wK];exact iD _ _ (by omega)
 have q4:bits .and .u64 ((y1:Int)/4) 3689348814741910323=(a2:Int):=by
  rw[ha2,show((y1:Int)/4)=((y1/4:Nat):Int) by omega];exact oc (y1/4) 3689348814741910323 (by omega) (by decide)
 have q5:bits .and .u64 (y1:Int) 3689348814741910323=(b2:Int):=by rw[hb2];exact oc y1 3689348814741910323 (by omega) (by decide)
 have q6:IntKind.u64.wrap ((a2:Int)+(b2:Int))=(y2:Int):=by rw[uV];exact iD _ _ (by omega)
 have q7:IntKind.u64.wrap ((y2:Int)/16+(y2:Int))=(s2:Int):=by
  rw[hs2,show((y2:Int)/16)=((y2/16:Nat):Int) by omega];exact iD _ _ (by omega)
 have q8:bits .and .u64 (s2:Int) 1085102592571150095=(y3:Int):=by rw[YO];exact oc s2 1085102592571150095 (by omega) (by decide)
 have q9:IntKind.u64.wrap ((y3:Int)+(y3:Int)/256)=(y4:Int):=by
  rw[hy4,show((y3:Int)/256)=((y3/256:Nat):Int) by omega];exact iD _ _ (by omega)
 have q10:IntKind.u64.wrap ((y4:Int)+(y4:Int)/65536)=(y5:Int):=by
  rw[hy5,show((y4:Int)/65536)=((y4/65536:Nat):Int) by omega];exact iD _ _ (by omega)
 have q11:IntKind.u64.wrap ((y5:Int)+(y5:Int)/4294967296)=(y6:Int):=by
  rw[hy6,show((y5:Int)/4294967296)=((y5/4294967296:Nat):Int) by omega];exact iD _ _ (by omega)
 have ly3:y3<=1085102592571150095:=by rw[YO];exact gH
 have ly6:y6<9223372036854775808:=by omega
 have q12:wrap64 (y6:Int)=(y6:Int):=IntWalk.wrap64_in _ (by omega);have q13:bits .and .i64 (y6:Int) 127=((pop x 64:Nat):Int):=by
  rw[MB y6 ly6,hend]
 generalize pop x 64=r at*;clear ly3 ly6 hm5 hm3 TP e1 e2 e3 hend la1 lb1 la2 lb2 ha1 hb1 wK ha2 hb2 uV hs2 YO hy4 hy5 hy6;go_enter func218,ntmps218;go_wp2;go_ret;exact⟨rfl,rfl⟩
theorem Ix (x k idx:Nat)(w:World)(hx0:((x:Int)==0)=false)
  (key:IntKind.u64.wrap (bits BinOp.and IntKind.u64 (x:Int) (IntKind.u64.wrap (-(x:Int)))*285870213051353865)/288230376151711744=(idx:Int))
  (hi:idx<64)(D:k<64)(hcell:w.cell? ⟨11,idx,none⟩=some (.int .u8 k)):
  Calls prog 173 #[.int .u64 x] w λe w'=>e=.returned (.int .i64 k)/\w'=w:=by
 go_enter func173,ntmps173;go_wp2_with (simp only[key]);go_ret;exact⟨rfl,rfl⟩
theorem Iy (w:World):Calls prog 173 #[.int .u64 0] w λe w'=>e=.returned (.int .i64 64)/\w'=w:=by
 go_enter func173,ntmps173;go_wp2;go_ret;exact⟨rfl,rfl⟩
end Sb
open Go.Extern.Stop Go.Stop Go.Extern
namespace Pl
theorem jh (t:Addr)(w:World):(ReflectliteValue.unpack (.iface 149 (.pointer (some t)))).run prog w
  = .ok (.agg #[.pointer (some ⟨12,149,none⟩),.pointer (some ⟨w.heap.size,0,none⟩),.int .u64 150]) (w.alloc (.cells #[.pointer (some t)] 149)):=by kernel_rfl
theorem mj (a:Addr)(w:World):(ReflectliteValue.methodAny (ReflectliteValue.valueError "reflectlite.Value.Type" 0) (λt _ _ _=>ReflectliteType.toType t) #[.agg #[.pointer (some ⟨12,149,none⟩),.pointer (some a),.int .u64 150]]).run prog w
  = .ok (.iface 342 (.agg #[.pointer (some ⟨12,149,none⟩)])) w:=by kernel_rfl
theorem iK (h:Value)(w:World):(Go.method 554 342 (.agg #[h]) "Kind").run prog w=.ok (315,h) w:=by kernel_rfl
theorem mo (w:World):((ReflectliteType.abiMethod λt=>(λa:Nat=>Value.int IntKind.u8 (a:Int)) <$> Rtype.kind t) #[.pointer (some ⟨12,149,none⟩)]).run prog w=.ok (.int .u8 22) w:=by kernel_rfl
theorem mq (w:World):((ReflectliteType.abiMethod λt=>(λa:Nat=>Value.int IntKind.u8 (a:Int)) <$> Rtype.kind t) #[.pointer (some ⟨12,147,none⟩)]).run prog w=.ok (.int .u8 22) w:=by kernel_rfl
theorem qY (z:Sem Value)(f:TypeId->Addr->Nat->Nat->Sem Value)(v:Value):
  ReflectliteValue.method z f #[v]=(do match <- ReflectliteValue.parts v with|none=>z|some (t,a,fl)=>f t a fl (fl%32)):=rfl
theorem jx (a:Addr)(w:World):(ReflectliteValue.parts (.agg #[.pointer (some ⟨12,149,none⟩),.pointer (some a),.int .u64 150])).run prog w=.ok (some (149,a,150)) w:=by kernel_rfl
theorem ku (a p:Addr)(W:World)(ha:W.cell? a=some (.pointer (some p))):
  (ReflectliteValue.method (ReflectliteValue.valueError "reflectlite.Value.IsNil" 0) ReflectliteValue.isNil #[.agg #[.pointer (some ⟨12,149,none⟩),.pointer (some a),.int .u64 150]]).run prog W=.ok (.bool false) W:=by
 rw[qY];simp only[Sem.run_bind,jx,Result.andThen];simp[ReflectliteValue.isNil,loadVar,isAgg,underlying,underlying149,ha,Result.andThen]
theorem iL (h:Value)(w:World):(Go.method 554 342 (.agg #[h]) "Elem").run prog w=.ok (332,.agg #[h]) w:=by kernel_rfl
theorem fo (h:Value)(w:World):(Go.method 554 342 (.agg #[h]) "Implements").run prog w=.ok (333,.agg #[h]) w:=by kernel_rfl
theorem eP (h:Value)(w:World):(Go.method 554 342 (.agg #[h]) "AssignableTo").run prog w=.ok (330,.agg #[h]) w:=by kernel_rfl
theorem mr (w:World):(ReflectliteType.method ReflectliteType.elem #[.agg #[.pointer (some ⟨12,149,none⟩)]]).run prog w=.ok (.iface 342 (.agg #[.pointer (some ⟨12,147,none⟩)])) w:=by kernel_rfl
theorem gR (w:World):(ReflectliteType.relation "Implements" ReflectliteType.implements_ #[.agg #[.pointer (some ⟨12,147,none⟩)],.iface 342 (.agg #[.pointer (some ⟨12,29,none⟩)])]).run prog w=.ok (.bool true) w:=by kernel_rfl
theorem lH (v:Value)(w:World):(ReflectliteType.typeOf #[.iface 147 v]).run prog w=.ok (.iface 342 (.agg #[.pointer (some ⟨12,147,none⟩)])) w:=by kernel_rfl
theorem iZ (w:World):(ReflectliteType.relation "AssignableTo" ReflectliteType.assignableTo #[.agg #[.pointer (some ⟨12,147,none⟩)],.iface 342 (.agg #[.pointer (some ⟨12,147,none⟩)])]).run prog w=.ok (.bool true) w:=by kernel_rfl
theorem kv (e:Addr)(w:World):(ReflectliteValue.unpack (.iface 147 (.pointer (some e)))).run prog w
  = .ok (.agg #[.pointer (some ⟨12,147,none⟩),.pointer (some ⟨w.heap.size,0,none⟩),.int .u64 150]) (w.alloc (.cells #[.pointer (some e)] 147)):=by kernel_rfl
theorem lI (w:World):(Rtype.elem? 149).run prog w=.ok (some 147) w:=by kernel_rfl
theorem uY (p:Addr)(w:World):(ReflectliteValue.mk 147 p ReflectliteValue.flagAddr).run prog w=.ok (.agg #[.pointer (some ⟨12,147,none⟩),.pointer (some p),.int .u64 406]) w:=by kernel_rfl
theorem nc (a p:Addr)(W:World)(ha:W.cell? a=some (.pointer (some p))):
  (ReflectliteValue.method (ReflectliteValue.valueError "reflectlite.Value.Elem" 0) ReflectliteValue.elem #[.agg #[.pointer (some ⟨12,149,none⟩),.pointer (some a),.int .u64 150]]).run prog W
   = .ok (.agg #[.pointer (some ⟨12,147,none⟩),.pointer (some p),.int .u64 406]) W:=by
 rw[qY];simp only[Sem.run_bind,jx,Result.andThen];simp[ReflectliteValue.elem,loadVar,isAgg,underlying,underlying149,ha,Result.andThen,lI,uY]
theorem z7 (v x:Value):ReflectliteValue.set #[v,x]=(do
  let (some (dst,a,fl),some (src,b,_)):=(<- ReflectliteValue.parts v,<- ReflectliteValue.parts x)
   |unsupported (.noEntry "extern/(internal/reflectlite.Value).Set.zeroValue")
  if fl/ReflectliteValue.flagAddr%2==0 then unsupported (.noEntry "extern/(internal/reflectlite.Value).Set.unaddressable")
  let val <- loadVar src b
  if <- Rtype.directlyAssignable dst src then storeVar dst a val
  else if <- Rtype.implements dst src then
   if(<- Rtype.kind src)==20 then
    match val with
    |.nilIface=>unsupported (.noEntry "extern/reflectlite: a nil value of one interface type handed on as a value of another")
    |_=>storeVar dst a val
   else storeVar dst a (.iface src val)
  else panicString ("reflectlite.Set: value of type " ++ (<- Rtype.spelt src) ++ " is not assignable to type " ++ (<- Rtype.spelt dst))
  pure (.tuple #[])):=rfl
theorem lJ (a:Addr)(w:World):(ReflectliteValue.parts (.agg #[.pointer (some ⟨12,147,none⟩),.pointer (some a),.int .u64 406])).run prog w=.ok (some (147,a,406)) w:=by kernel_rfl
theorem ng (a:Addr)(w:World):(ReflectliteValue.parts (.agg #[.pointer (some ⟨12,147,none⟩),.pointer (some a),.int .u64 150])).run prog w=.ok (some (147,a,150)) w:=by kernel_rfl
theorem lK (w:World):(Rtype.directlyAssignable 147 147).run prog w=.ok true w:=by kernel_rfl
theorem qZ (ta b e:Addr)(old:Value)(W:World)(J:W.cell? b=some (.pointer (some e)))(ht:W.cell? ta=some old)(hf:W.frozen? ta=false):
  (ReflectliteValue.set #[.agg #[.pointer (some ⟨12,147,none⟩),.pointer (some ta),.int .u64 406],.agg #[.pointer (some ⟨12,147,none⟩),.pointer (some b),.int .u64 150]]).run prog W
   = .ok (.tuple #[]) (W.setCell ta (.pointer (some e))):=by
 rw[z7];simp only[Sem.run_bind,lJ,ng,Result.andThen];simp[ReflectliteValue.flagAddr,loadVar,isAgg,underlying,underlying147,J,Result.andThen,lK,storeVar,Value.cells,storeCells,Addr.add];rw[run_store prog W ta _ _ (by rfl)];simp[ht,hf]
theorem Hg (e t:Addr) (old:Value) (w:World) (hg:w.cell? ⟨9,0,none⟩=some (.iface 342 (.agg #[.pointer (some ⟨12,29,none⟩)]))) (zq:w.cell? t=some old) (Oz:w.frozen? t=false):
  Calls prog 76 #[.iface 147 (.pointer (some e)),.iface 149 (.pointer (some t))] w λev w'=>ev=.returned (.bool true)/\w'=((((w.alloc (.cells #[.pointer (some t)] 149)).alloc (.cells #[.pointer (some ⟨12,149,none⟩),.pointer (some ⟨w.heap.size,0,none⟩),.int .u64 150] 262)).alloc (.cells #[.pointer (some ⟨12,149,none⟩),.pointer (some ⟨w.heap.size,0,none⟩),.int .u64 150] 262)).alloc (.cells #[.pointer (some e)] 147)).setCell t (.pointer (some e)):=by
 have h6:=@run_callFunc_extern prog 151 _ (λargs=>ReflectliteValue.unpack (args.getD 0 (.tuple #[]))) func151 (by kernel_rfl) (by kernel_rfl) (by kernel_rfl) (by kernel_rfl)
 have h7:=@run_callFunc_extern prog 152 _ (ReflectliteValue.methodAny (ReflectliteValue.valueError "reflectlite.Value.Type" 0) (λt _ _ _=>ReflectliteType.toType t)) func152 (by kernel_rfl) (by kernel_rfl) (by kernel_rfl) (by kernel_rfl)
 have h8:=@run_callFunc_extern prog 153 _ (ReflectliteValue.method (ReflectliteValue.valueError "reflectlite.Value.IsNil" 0) ReflectliteValue.isNil) func153 (by kernel_rfl) (by kernel_rfl) (by kernel_rfl) (by kernel_rfl)
 have h27:=@run_callFunc_extern prog 315 _ (ReflectliteType.abiMethod λt=>do pure (.int .u8 (<- Rtype.kind t))) func315 (by kernel_rfl) (by kernel_rfl) (by kernel_rfl) (by kernel_rfl)
 have h37:=@run_callFunc_extern prog 332 _ (ReflectliteType.method ReflectliteType.elem) func332 (by kernel_rfl) (by kernel_rfl) (by kernel_rfl) (by kernel_rfl)
 have h38:=@run_callFunc_extern prog 333 _ (ReflectliteType.relation "Implements" ReflectliteType.implements_) func333 (by kernel_rfl) (by kernel_rfl) (by kernel_rfl) (by kernel_rfl)
 have h10:=@run_callFunc_extern prog 205 _ ReflectliteType.typeOf func205 (by kernel_rfl) (by kernel_rfl) (by kernel_rfl) (by kernel_rfl)
 have h35:=@run_callFunc_extern prog 330 _ (ReflectliteType.relation "AssignableTo" ReflectliteType.assignableTo) func330 (by kernel_rfl) (by kernel_rfl) (by kernel_rfl) (by kernel_rfl)
 have h11:=@run_callFunc_extern prog 207 _ (ReflectliteValue.method (ReflectliteValue.valueError "reflectlite.Value.Elem" 0) ReflectliteValue.elem) func207 (by kernel_rfl) (by kernel_rfl) (by kernel_rfl) (by kernel_rfl)
 have Hh:=@run_callFunc_extern prog 208 _ ReflectliteValue.set func208 (by kernel_rfl) (by kernel_rfl) (by kernel_rfl) (by kernel_rfl)
 have tO:=lH
 have mA:=eP
 have a25:=iZ
 have v25:=kv
 have f6:=jh
 have f7:=mj
 have mK:=iK
 have mE:=iL
 have mI:=fo
 have k27:=mo
 have k25:=mq
 have e27:=mr
 have i25:=gR
 have n8:=ku ⟨w.heap.size,0,none⟩ t ((w.alloc (.cells #[.pointer (some t)] 149)).alloc (.cells #[.pointer (some ⟨12,149,none⟩),.pointer (some ⟨w.heap.size,0,none⟩),.int .u64 150] 262)) (by simp)
 have hlt:=qy hg
 simp only at hlt
 have hg2:((w.alloc (.cells #[.pointer (some t)] 149)).alloc (.cells #[.pointer (some ⟨12,149,none⟩),.pointer (some ⟨w.heap.size,0,none⟩),.int .u64 150] 262)).cell? ⟨9,0,none⟩=some (.iface 342 (.agg #[.pointer (some ⟨12,29,none⟩)])):=by
  rw[aV _ _ ⟨9,0,none⟩ (by simp;omega),aV _ _ ⟨9,0,none⟩ hlt];exact hg
 have uX:t.block<w.heap.size:=by
  rcases bC t.block w.heap.size with h|h
  ·exact h
  ·simp[World.cell?,Array.getElem?_eq_none h]at zq
 have el:=nc ⟨w.heap.size,0,none⟩ t (((w.alloc (.cells #[.pointer (some t)] 149)).alloc (.cells #[.pointer (some ⟨12,149,none⟩),.pointer (some ⟨w.heap.size,0,none⟩),.int .u64 150] 262)).alloc (.cells #[.pointer (some ⟨12,149,none⟩),.pointer (some ⟨w.heap.size,0,none⟩),.int .u64 150] 262)) (by rw[aV _ _ ⟨w.heap.size,0,none⟩ (by simp;omega)];simp)
 have st:=qZ t ⟨w.heap.size+1+1+1,0,none⟩ e old ((((w.alloc (.cells #[.pointer (some t)] 149)).alloc (.cells #[.pointer (some ⟨12,149,none⟩),.pointer (some ⟨w.heap.size,0,none⟩),.int .u64 150] 262)).alloc (.cells #[.pointer (some ⟨12,149,none⟩),.pointer (some ⟨w.heap.size,0,none⟩),.int .u64 150] 262)).alloc (.cells #[.pointer (some e)] 147))
  (by rw[dI _ _ _ _ (by simp)];rfl)
  (by rw[aV _ _ t (by simp;omega),aV _ _ t (by simp;omega),aV _ _ t (by simp;omega),aV _ _ t uX];exact zq)
  (by rw[bT _ _ t (by simp;omega),bT _ _ t (by simp;omega),bT _ _ t (by simp;omega),bT _ _ t (Nat.ne_of_lt uX)];exact Oz)
 go_enter func76,ntmps76
 go_wp2
 refine bO 1 ?_
 rw[cW]
 go_wp2
 go_ret
 exact⟨rfl,rfl⟩
end Pl
end Go.Proofs.YtcbmfakjfoggaaaGreatDoor
