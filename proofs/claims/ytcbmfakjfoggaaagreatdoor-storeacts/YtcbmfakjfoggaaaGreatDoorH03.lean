/- H03 -/
import Derived.Test.YtcbmfakjfoggaaaGreatDoorA0
namespace Go.Proofs.YtcbmfakjfoggaaaGreatDoor
open Go.RowKit Go.Maps _root_.Go.Proofs.Tryz Go.Shelf
def Sh.yg:Go.Shelf.Ren:=⟨fun|108=>95|n=>n,fun|28=>38|3=>3|0=>0|4=>4|n=>n,fun|n=>n⟩
theorem Sh.Dd:Go.Proofs.Lays.n108 prog Sh.yg:={
 mixed:=by kernel_rfl
 f108:=func95.trans (ba some (by kernel_rfl))
 t0:=underlying0
 a0:=Tryz.isAgg0
 z0:=Tryz.sizeOf0
 v0:=Tryz.zeroValue0
 t3:=underlying3
 a3:=Tryz.isAgg3
 z3:=Tryz.sizeOf3
 v3:=Tryz.zeroValue3
 t4:=underlying4
 a4:=Tryz.isAgg4
 z4:=Tryz.sizeOf4
 v4:=Tryz.zeroValue4
 t28:=underlying38
 a28:=Tryz.isAgg38
 z28:=Tryz.sizeOf38
 v28:=Tryz.zeroValue38}
open Go.Lib in
theorem Sh.slices_Index_int (b off n c:Nat)(zs:List Int)(x:Int)(w:World)(hz:n<=zs.length)(Ax:n<=9223372036854775807)(K:∀j,j<zs.length->w.cell? ⟨b,off+j,none⟩=some (.int .i64 (zs.getD j 0))):
  Calls prog 95 #[.slice (some ⟨b,off,none⟩) n c,.int .i64 x] w λe w'=>e=.returned (.int .i64 (Lib.idxOf (zs.take n) x))/\w'=w:=Any.slices_Index_int Sh.Dd b off n c zs x w hz Ax K
open Go.Lib in
open Go.Lib in
open Go.Lib in
def Sh.sR:Go.Shelf.Ren:=⟨fun|15=>79|n=>n,fun|22=>38|3=>3|4=>4|n=>n,fun|n=>n⟩
theorem Sh.ur:Go.Proofs.Lays2.n15 prog Sh.sR:={
 mixed:=by kernel_rfl
 f15:=func79.trans (ba some (by kernel_rfl))
 t3:=underlying3
 a3:=Tryz.isAgg3
 z3:=Tryz.sizeOf3
 v3:=Tryz.zeroValue3
 t4:=underlying4
 a4:=Tryz.isAgg4
 z4:=Tryz.sizeOf4
 v4:=Tryz.zeroValue4
 t22:=underlying38
 a22:=Tryz.isAgg38
 z22:=Tryz.sizeOf38
 v22:=Tryz.zeroValue38
 i3:=by kernel_rfl}
open Go.RowKit Go.Lib in
theorem Sh.slices_Clone_int (b off n c:Nat)(zs:List Int)(w:World)(hz:n<=zs.length)(Ax:n*8<=140737488355328)(K:∀j,j<zs.length->w.cell? ⟨b,off+j,none⟩=some (.int .i64 (zs.getD j 0))):
  Calls prog 79 #[.slice (some ⟨b,off,none⟩) n c] w λe w'=>∃v',e=.returned v'/\w'.ownsRow w.heap.size 3 1 v' n ((zs.take n).map (Value.int .i64))/\v'≠.slice none 0 0/\Below w.heap.size w w':=Any.slices_Clone_int Sh.ur b off n c zs w hz Ax K
open Go.RowKit Go.Lib in
theorem Sh.slices_Clone_int_nil (n c:Nat)(w:World):
  Calls prog 79 #[.slice none n c] w λe w'=>e=.returned (.slice none 0 0)/\w'=w:=Any.slices_Clone_int_nil Sh.ur n c w
def Sh.sS:Go.Shelf.Ren:=⟨fun|23=>96|n=>n,fun|22=>38|3=>3|4=>4|0=>0|n=>n,fun|n=>n⟩
theorem Sh.Fj:Go.Proofs.Lays2.n23 prog Sh.sS:={
 mixed:=by kernel_rfl
 f23:=func96.trans (ba some (by kernel_rfl))
 t0:=underlying0
 a0:=Tryz.isAgg0
 z0:=Tryz.sizeOf0
 v0:=Tryz.zeroValue0
 t3:=underlying3
 a3:=Tryz.isAgg3
 z3:=Tryz.sizeOf3
 v3:=Tryz.zeroValue3
 t4:=underlying4
 a4:=Tryz.isAgg4
 z4:=Tryz.sizeOf4
 v4:=Tryz.zeroValue4
 t22:=underlying38
 a22:=Tryz.isAgg38
 z22:=Tryz.sizeOf38
 v22:=Tryz.zeroValue38
 i3:=by kernel_rfl}
open Go.RowKit Go.Lib Go.Sort in
theorem Sh.slices_Delete_int_cells (b off n c i j:Nat)(zs:List Int)(w:World)(hz:n<=zs.length)(gB:n<=c)(hm:c<=9223372036854775807)(Ec:i<=j)(E:j<=n)(K:∀j,j<zs.length->w.cell? ⟨b,off+j,none⟩=some (.int .i64 (zs.getD j 0)))(hf:∀j,j<n->w.frozen? ⟨b,off+j,none⟩=false):
  Calls prog 96 #[.slice (some ⟨b,off,none⟩) n c,.int .i64 i,.int .i64 j] w λe w'=>e=.returned (.slice (some ⟨b,off,none⟩) (n-(j-i)) c)/\∃q,w'=(w.drewN q).setCells b off (((zs.take n).take i++(zs.take n).drop j++List.replicate (j-i) 0).map (Value.int .i64)):=Any.slices_Delete_int_cells Sh.Fj b off n c i j zs w hz gB hm Ec E K hf
end Go.Proofs.YtcbmfakjfoggaaaGreatDoor
