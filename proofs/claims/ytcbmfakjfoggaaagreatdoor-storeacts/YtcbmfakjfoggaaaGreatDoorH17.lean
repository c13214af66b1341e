/- H17 -/
import Derived.Test.YtcbmfakjfoggaaaGreatDoorA0
import Derived.Test.YtcbmfakjfoggaaaGreatDoorH15
set_option maxHeartbeats 0
set_option maxRecDepth 100000
namespace Go.Proofs.YtcbmfakjfoggaaaGreatDoor
open Go.Maps _root_.Go.Proofs.Tryz Go.RowKit
namespace Sb
open Fr Bd Zn Dz
def bz (x a:Int):Value:=.agg #[.int .i64 x,.int .i64 a]
theorem rC (c b:Nat)(sz V at_ i:Int)(w:World)(h0:w.cell? ⟨b,0,none⟩=some (.int .i64 V))(G:w.cell? ⟨b,1,none⟩=some (.int .i64 at_))(K:w.cell? ⟨c,1,none⟩=some (.int .i64 sz))(ha:0<=at_/\at_<256)(hs:1<=sz/\sz<=64)(hi:0<=i/\i<64):
  Calls prog 174 #[ptr c,ptr b,.int .i64 i] w λev w'=>ev=.returned (bz V (at_*64+i*sz))/\Below w.heap.size w w':=by
 obtain⟨q,hq⟩:∃q,q=i*sz:=⟨_,rfl⟩;have q0:0<=q:=by rw[hq];exact Int.mul_nonneg hi.1 (by omega)
 have q1:q<=64*64:=by
  rw[hq];exact Int.mul_le_mul (by omega) hs.2 (by omega) (by omega)
 rw[<- hq];have m1:IntKind.i64.wrap (i*sz)=q:=by rw[<- hq];exact aB _ (by omega)
 have m2:IntKind.i64.wrap (at_*64)=at_*64:=aB _ (by omega);have m3:IntKind.i64.wrap (at_*64+q)=at_*64+q:=aB _ (by omega);have lb:=aa w _ h0;have lc:=aa w _ K;simp only at lb lc;have F1:=χ (γ w.heap.size w) (cB 0 0);have k0:=(F1.cell (p:=⟨b,0,none⟩) lb).trans h0;have k1:=(F1.cell (p:=⟨b,1,none⟩) lb).trans G;have k2:=(F1.cell (p:=⟨c,1,none⟩) lc).trans K;have r:=θ w #[.int .i64 0,.int .i64 0] 34;have r0:=r 0;have r1:=r 1;have f0:∀o,(w.alloc (cB 0 0)).frozen? ⟨w.heap.size,o,none⟩=false:=λo=>aG _ _ w.heap.size o rfl;have f00:=f0 0;have f01:=f0 1;simp only[Δ,υ,ω]at r0 r1;have qT:b≠w.heap.size:=by omega
 have Ra:c≠w.heap.size:=by omega
 have HF:=I F1;clear h0 G K F1 r f0 hq;unfold ptr bz at*;go_enter func174,ntmps174;go_upto_region 1 with(fail);generalize w.alloc (cB 0 0)=W at*;have HK:Hid (∀u v,((W.setCell ⟨w.heap.size,0,none⟩ u).setCell ⟨w.heap.size,1,none⟩ v).cell? ⟨b,0,none⟩=some (.int .i64 V)/\((W.setCell ⟨w.heap.size,0,none⟩ u).setCell ⟨w.heap.size,1,none⟩ v).cell? ⟨b,1,none⟩=some (.int .i64 at_)/\((W.setCell ⟨w.heap.size,0,none⟩ u).setCell ⟨w.heap.size,1,none⟩ v).cell? ⟨c,1,none⟩=some (.int .i64 sz)):=λu v =>
  ⟨(bu (by simp<;>omega)).trans ((bu (by simp<;>omega)).trans k0),(bu (by simp<;>omega)).trans ((bu (by simp<;>omega)).trans k1),(bu (by simp<;>omega)).trans ((bu (by simp<;>omega)).trans k2)⟩
 have t0:∀u v,((W.setCell ⟨w.heap.size,0,none⟩ u).setCell ⟨w.heap.size,1,none⟩ v).cell? ⟨w.heap.size,0,none⟩=some u:=λu v=>(bu (by simp)).trans (fK r0);have t1:∀u v,((W.setCell ⟨w.heap.size,0,none⟩ u).setCell ⟨w.heap.size,1,none⟩ v).cell? ⟨w.heap.size,1,none⟩=some v:=λu v=>fK ((bu (by simp)).trans r1);go_region_held3 (λw'=>w'.cell? ⟨b,0,none⟩=some (.int .i64 V)/\w'.cell? ⟨b,1,none⟩=some (.int .i64 at_)/\w'.cell? ⟨c,1,none⟩=some (.int .i64 sz)) ((first|(go_keep;done)|(exact(Z HK) _ _))) (fail);go_wp2;refine Θ (v:=.agg #[.int .i64 V,.int .i64 (at_*64+q)]) (by simp[results,results174,go_sem,t0,t1];try rfl) rfl ?_;exact⟨rfl,(((Z HF).setCell (ζ _) _).setCell (ζ _) _).drew⟩
end Sb
end Go.Proofs.YtcbmfakjfoggaaaGreatDoor
