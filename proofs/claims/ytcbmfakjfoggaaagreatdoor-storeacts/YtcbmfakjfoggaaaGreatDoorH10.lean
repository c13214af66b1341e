/- H10 -/
import Derived.Test.YtcbmfakjfoggaaaGreatDoorA0
import Derived.Test.YtcbmfakjfoggaaaGreatDoorH07
import Derived.Test.YtcbmfakjfoggaaaGreatDoorH08
set_option maxHeartbeats 0
namespace Go.Proofs.YtcbmfakjfoggaaaGreatDoor
open Go.Maps _root_.Go.Proofs.Tryz Go.RowKit
theorem Hj (w:World):Calls prog 78 #[.nilIface] w λev w'=>ev=.returned (.tuple #[.int .i64 0,.int .i64 (-1)])/\Below w.heap.size w w':=by
 go_enter func78,ntmps78;go_wp2_with fail;go_ret2;exact⟨rfl,γ _ _⟩
abbrev LV (e:Nat->Addr):Obj:=.cells #[Fr.bc (e 0),Fr.bc (e 1),Fr.bc (e 2),Fr.bc (e 3),Fr.bc (e 4),Fr.bc (e 5),Fr.bc (e 6),Fr.bc (e 7),Fr.bc (e 8),Fr.bc (e 9)] 29
theorem Hk (w:World)(e:Nat->Addr)(n:Nat)(hn:n<10):(w.alloc (LV e)).cell? ⟨w.heap.size,n,none⟩=some (.iface 424 (.pointer (some (e n)))):=by
 match n,hn with
 |0,_=>simp
 |1,_=>simp
 |2,_=>simp
 |3,_=>simp
 |4,_=>simp
 |5,_=>simp
 |6,_=>simp
 |7,_=>simp
 |8,_=>simp
 |9,_=>simp
 |k+10,h=>omega
theorem Ex (i:Nat)(hi:i<10)(w:World)(e:Nat->Addr)(he:dM w e):
  Calls prog 78 #[.iface 424 (.pointer (some (e i)))] w λev w'=>ev=.returned (.tuple #[.int .i64 (i+1),.int .i64 (-1)])/\Below w.heap.size w w':=by
 go_enter func78,ntmps78;go_wp2_with fail;refine(LU _ _ _ (he.alloc _).Z_).mono ?_;rintro ev w1⟨rfl,rf⟩;have J:Below w.heap.size w w1:=by rw[rf];exact Fr.χ (Fr.χ (Fr.χ (Fr.χ (γ _ _) _) _) _) _
 clear rf;have G:=he.below J;have v0:=G.v0;have v1:=G.v1;have v2:=G.v2;have v3:=G.v3;have v4:=G.v4;have v5:=G.v5;have v6:=G.v6;have v7:=G.v7;have v8:=G.v8;have v9:=G.v9;clear he;go_wp2_with fail;have hcell:=Hk w1 e;have O:=G.alloc (LV e);have hb2:=Fr.χ J (LV e);clear G J v0 v1 v2 v3 v4 v5 v6 v7 v8 v9;generalize w1.alloc (LV e)=W2 at*;generalize w1.heap.size=B at*;have H2:=I O;have HB:=I hb2;clear O hb2;have HC:=I hcell;clear hcell;go_loop [3,28] (λat_ k=>∃n:Nat,n<=i/\k=.int .i64 n/\at_=.int .i64 (-1)) (λ_ k=>10-(intOf k).toNat);case atStart=>exact⟨0,Γ _,rfl,rfl⟩
 case round =>
  obtain⟨n,hn,rfl,rfl⟩:=hrel;have K:=(Z HC) n (by omega);by_cases hni:n=i
  ·subst hni;go_wp2_with (go_at_call 150;refine(u9 _ _).mono ?_;rintro ev w'⟨rfl,rfl⟩);go_ret2;exact⟨rfl,Z HB⟩
  ·obtain⟨ca,ta,hba⟩:=(Z H2).blk i hi;obtain⟨cb,tb,LP⟩:=(Z H2).blk n (by omega);have HI:=I (xp (e i) (e n) ca cb ta tb W2 (λh=>hni ((Z H2).inj i n hi (by omega) h).symm) hba LP);have hlt:n<i:=by omega
   clear hba LP hni;go_wp2_with (go_at_call 150;refine(Z HI).mono ?_;rintro ev w'⟨rfl,rfl⟩);go_round;case rel=>exact⟨n+1,by omega,by go_num,rfl⟩
   case measure=>simp[intOf];omega
theorem gT (i:Nat)(hi:i<10)(c:Int)(K:c=i+1)(w:World)(e:Nat->Addr)(he:dM w e):
  Calls prog 16 #[.iface 424 (.pointer (some (e i))),.int .i64 c] w λev w'=>ev=.returned (.bool true)/\Below w.heap.size w w':=by
 subst K;go_enter func16,ntmps16;go_wp2_with (go_at_call 78;refine(Ex i hi _ e he).mono ?_;rintro ev w'⟨rfl,J⟩);go_ret;exact⟨rfl,by assumption⟩
theorem Ey (w:World):Calls prog 16 #[.nilIface,.int .i64 0] w λev w'=>ev=.returned (.bool true)/\Below w.heap.size w w':=by
 go_enter func16,ntmps16;go_wp2_with (go_at_call 78;refine(Hj _).mono ?_;rintro ev w'⟨rfl,J⟩);go_ret;exact⟨rfl,by assumption⟩
end Go.Proofs.YtcbmfakjfoggaaaGreatDoor
