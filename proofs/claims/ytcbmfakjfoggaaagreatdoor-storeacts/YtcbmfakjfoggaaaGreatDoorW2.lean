/- W2 -/
import Derived.Test.YtcbmfakjfoggaaaGreatDoorA0
import Derived.Test.YtcbmfakjfoggaaaGreatDoorW1
set_option maxHeartbeats 0
set_option maxRecDepth 100000
namespace Go.Proofs.YtcbmfakjfoggaaaGreatDoor
open _root_.Go.Proofs.Tryz Go.RowKit Go.Maps
namespace Pl
open Fr Bd Zn Dz Sb Mg Rd
section
variable {B:Nat}{w w':World}{ms aK:Nat}{R:df}{y:Int}{b:Nat}{x:gy}{ab9 K':World->Prop}
theorem pJ (h:RT B w ms aK R){x y:Int}(hK:∀W W',Below W.heap.size W W'->ab9 W->ab9 W')
  (HT:Calls prog 23 #[.pointer (some ⟨aK,0,none⟩),.int .i64 x,.int .i64 y] w λev w1=>ev=.returned (.tuple #[bz 0 0,.int .i64 8])/\RT B w1 ms aK R/\ab9 w1)
  {n:Nat}(HL:∀W,ab9 W->aK<W.heap.size/\∃(g l c:Nat),l<1000/\W.cell? ⟨aK,4,none⟩=some (.slice (some ⟨g,0,none⟩) (l+1) c)/\W.cell? ⟨g,l,none⟩=some (.int .i64 n)/\g<W.heap.size)
  (HC:∀W,RT B W ms aK R->ab9 W->Calls prog 27 #[.pointer (some ⟨aK,0,none⟩),.int .i64 n] W λev w'=>(∃r:Int,ev=.returned (.int .i64 r))/\RT B w' ms aK R/\K' w'):
  Calls prog 108 #[.pointer (some ⟨ms,0,none⟩),.int .i64 x,.int .i64 y] w λev w'=>ev=.returned (.tuple #[.int .i64 0,.int .i64 8])/\RT B w' ms aK R/\K' w':=by
 have c0:=h.c0;have sN:=I HT;have HK:=I hK;have NW:=I HL;have HCC:=I HC;clear h HT hK HL HC;unfold bz at*;go_enter func108,ntmps108;go_wp2_with fail;refine(Z sN).mono ?_;rintro ev w2⟨rfl,H2,hk2⟩;have F3:=χ (γ w2.heap.size w2) (cB 0 0);have H3:=H2.b F3;have Cq:=(Z HK) _ _ F3 hk2;clear sN c0 H2 hk2 F3;obtain⟨Kj,g,l,c,hl,z4,kU,hg⟩:=(Z NW) _ Cq;have q8:=bB w2 #[.int .i64 0,.int .i64 0] 34;go_upto_region 3 with(fail);generalize w2.alloc (cB 0 0)=W3 at*;generalize w2.heap.size=b8 at*;have hw:IntKind.i64.wrap ((l:Int)+1-1)=(l:Int):=by rw[show(l:Int)+1-1=l from by omega];exact aB _ (by omega)
 have hwl:IntKind.i64.wrap (l:Int)=(l:Int):=aB _ (by omega);have hb1:(l:Int)<(l:Int)+1:=by omega
 have hb0:(0:Int)<=(l:Int):=by omega
 have hms:=H3.tg.lt;have c0:=H3.c0;have p_:=I ((Z HCC) W3.drew (H3.b (dw W3)) ((Z HK) _ _ (dw W3) Cq));clear H3 Cq hms Kj hg NW HK HCC q8;go_region_with ((go_at_call 27;refine(Z p_).mono ?_;rintro ev w5⟨⟨r,rfl⟩,R5,K5⟩));all_goals
  have mU:=I R5;have AW:=I K5;clear R5 K5 p_ z4 kU c0;go_wp2;go_ret2;exact⟨rfl,Z mU,Z AW⟩
end
end Pl
end Go.Proofs.YtcbmfakjfoggaaaGreatDoor
