/- A list of ints that came in, as the walks take it. -/
import Derived.Test.YtdmeoooimnfmaaaDoorWhole
import Derived.ChangeSame
namespace Go.Proofs.YtdmeoooimnfmaaaDoor
open Go.RowKit
namespace Bd
open Fr
theorem ints_of {w : World} {a : Addr} {len : Nat} {zs : List Int} (hl : len ≤ zs.length) (hc : ∀ i, i < zs.length → w.cell? (a.add i) = some (.int .i64 (zs.getD i 0))) (hw : ∀ n ∈ zs, (Lit.int .i64 n).wf = true) : Ints w (some a) len (fun i => zs.getD i 0) := by
  intro i hi
  have h1 := hc i (by omega)
  have hb := World.block_lt_of_cell? w _ h1
  obtain ⟨blk, off, spot⟩ := a
  have hbd := bd_i64 (hw (zs.getD i 0) (by
    rw [List.getD_eq_getElem?_getD, List.getElem?_eq_getElem (by omega), Option.getD_some]
    exact List.getElem_mem _))
  cases spot with
  | none =>
    have ea : (⟨blk, off, none⟩ : Addr).add i = ⟨blk, off + i, none⟩ := by unfold Addr.add; split <;> simp_all
    rw [ea] at h1 hb
    exact ⟨blk, off, rfl, hb, h1, hbd.1, hbd.2⟩
  | some s =>
    exfalso
    have h0 := hc 0 (by omega)
    simp only [Addr.add, World.cell?, if_true] at h0
    split at h0 <;> simp_all
theorem ints_nil (w : World) (p : Option Addr) : Ints w p 0 (fun _ => 0) := fun i hi => by omega
end Bd
theorem cells3 : Tryd.prog.cellsOf 3 = 1 := by kernel_rfl
theorem laidOut : laidOutB Tryd.prog = true := by kernel_rfl
end Go.Proofs.YtdmeoooimnfmaaaDoor
