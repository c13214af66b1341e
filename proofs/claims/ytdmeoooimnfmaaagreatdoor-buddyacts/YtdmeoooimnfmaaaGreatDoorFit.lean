/- The library's functions that buddy.fit hands function values to: the search, the deletion. -/
import Derived.Test.YtdmeoooimnfmaaaGreatDoorMp
import Derived.Laws.IdiomCopy
import Derived.Shelf.AbstractIn
namespace Go.Proofs.YtdmeoooimnfmaaaGreatDoor
open Go.RowKit
namespace Bd
open Fr
/-- A row of blocks in the block g. -/
structure Row (w : World) (g : Nat) (R : List Bl) : Prop where
  c : ∀ i, i < R.length → w.cell? ⟨g, i * 2, none⟩ = some (.int .i64 (R.getD i (0, 0)).1) ∧ w.cell? ⟨g, i * 2 + 1, none⟩ = some (.int .i64 (R.getD i (0, 0)).2)
  fz : ∀ o, o < R.length * 2 → w.frozen? ⟨g, o, none⟩ = false
  lt : g < w.heap.size
theorem Row.b {w w' : World} {g : Nat} {R : List Bl} (h : Row w g R) (hb : Below w.heap.size w w') : Row w' g R :=
  ⟨fun i hi => ⟨(hb.cell (p := ⟨g, i * 2, none⟩) h.lt).trans (h.c i hi).1, (hb.cell (p := ⟨g, i * 2 + 1, none⟩) h.lt).trans (h.c i hi).2⟩, fun o ho => (hb.frozen (p := ⟨g, o, none⟩) h.lt).trans (h.fz o ho), Nat.lt_of_lt_of_le h.lt hb.size⟩
theorem row_of {w : World} {B : Nat} {v : Value} {L : List Bl} (h : w.ownsRow B 33 2 v L.length (flat L)) (hL : L ≠ []) : ∃ g cap, v = .slice (some ⟨g, 0, none⟩) L.length cap ∧ B ≤ g ∧ L.length ≤ cap ∧ cap ≤ maxLen ∧ Row w g L := by
  rcases h.2 with ⟨_, h0⟩ | ⟨g, cap, cur, rfl, hb, hg, hle, hcap, hcs, hx⟩
  · exact absurd (List.length_eq_zero_iff.1 h0) hL
  · have hlt : g < w.heap.size := by
      rcases Nat.lt_or_ge g w.heap.size with h' | h'
      · exact h'
      · rw [Array.getElem?_eq_none h'] at hg; cases hg
    refine ⟨g, cap, rfl, hb, hle, hcap, fun i hi => ?_, fun o _ => by simp [World.frozen?, hg], hlt⟩
    have hf := flat_get L i hi
    rw [List.getD_eq_getElem?_getD, List.getElem?_eq_getElem hi, Option.getD_some]
    rw [Nat.mul_comm i 2]
    exact ⟨(h.cellAt (2 * i) (by omega)).trans hf.1, (h.cellAt (2 * i + 1) (by omega)).trans hf.2⟩

theorem less_ok (a k o : Int) (cb : Nat) (w : World) (hc : w.cell? ⟨cb, 0, none⟩ = some (.int .i64 o)) (hlt : cb < w.heap.size) :
    Calls Tryz.prog 42 #[blkV a k, .pointer (some ⟨cb, 0, none⟩)] w fun ev w' => ev = .returned (.bool (decide (k < o))) ∧ w' = w.alloc (blkO a k) := by
  have hc2 : (w.alloc (blkO a k)).cell? ⟨cb, 0, none⟩ = some (.int .i64 o) := ((ballo (Below.refl _ _) _).cell (p := ⟨cb, 0, none⟩) hlt).trans hc
  clear hc
  go_enter Tryz.func42, Tryz.ntmps42
  go_wp2
  go_ret
  exact ⟨rfl, rfl⟩

set_option maxHeartbeats 1000000 in
theorem index_ok (L : List Bl) (g cap cb : Nat) (o : Int) (w : World) (hr : Row w g L) (hl : L.length ≤ 256) (hc : w.cell? ⟨cb, 0, none⟩ = some (.int .i64 o)) (hlt : cb < w.heap.size) :
    Calls Tryz.prog 58 #[.slice (some ⟨g, 0, none⟩) L.length cap, .func (.func 42) #[] #[.pointer (some ⟨cb, 0, none⟩)]] w fun ev w' => Below w.heap.size w w' ∧
      ((ev = .returned (.int .i64 (-1)) ∧ ∀ j, j < L.length → o ≤ (L.getD j (0, 0)).2) ∨ ∃ i : Nat, i < L.length ∧ ev = .returned (.int .i64 i) ∧ (L.getD i (0, 0)).2 < o ∧ ∀ j, j < i → o ≤ (L.getD j (0, 0)).2) := by
  have HR := hide hr
  clear hr
  generalize hn : L.length = n at *
  go_enter Tryz.func58, Tryz.ntmps58
  go_wp2
  go_loopw [8] (fun s wr => ∃ i : Nat, s = .int .i64 i ∧ i ≤ n ∧ Below w.heap.size w wr ∧ Hid (∀ j, j < i → o ≤ (L.getD j (0, 0)).2)) (fun s _ => n - (RowKit.intOf s).toNat)
  case atStart => exact ⟨0, rfl, Nat.zero_le _, Below.refl _ _, fun j hj => by omega⟩
  case round =>
    obtain ⟨i, rfl, hi, hb, ha⟩ := hrel
    by_cases hin : i < n
    · have hcb := (hb.cell (p := ⟨cb, 0, none⟩) hlt).trans hc
      have hz := hb.size
      have cc := ((unhide HR).b hb).c i (by omega)
      have HX := hide (show o ≤ (L.getD i (0, 0)).2 ∨ (L.getD i (0, 0)).2 < o by omega)
      obtain ⟨c1, c2⟩ := cc
      obtain ⟨x, hx⟩ : ∃ x, x = L.getD i (0, 0) := ⟨_, rfl⟩
      rw [← hx] at c1 c2 HX
      have HXE := hide hx
      clear hx
      obtain ⟨x1, x2⟩ := x
      simp only at c1 c2 HX
      rcases unhide HX with hk | hk
      · have hd : decide (x2 < o) = false := by simp; omega
        go_wp2_with fail
        refine (less_ok x1 x2 o cb _ hcb (by omega)).mono ?_
        rintro ev w2 ⟨rfl, rfl⟩
        go_wp2_with fail
        go_roundw
        case rel => exact ⟨i + 1, by go_num, by omega, ballo hb _, fun j hj => by
          by_cases e : j = i
          · subst e; rw [← unhide HXE]; exact hk
          · exact (unhide ha) j (by omega)⟩
        case measure => simp [RowKit.intOf]; omega
      · have hd : decide (x2 < o) = true := by simp; omega
        go_wp2_with fail
        refine (less_ok x1 x2 o cb _ hcb (by omega)).mono ?_
        rintro ev w2 ⟨rfl, rfl⟩
        go_wp2_with fail
        go_ret
        exact ⟨ballo hb _, Or.inr ⟨i, by omega, rfl, by rw [← unhide HXE]; exact hk, unhide ha⟩⟩
    · have hin2 : i = n := by omega
      subst hin2
      go_wp2
      go_ret
      exact ⟨hb, Or.inl ⟨rfl, unhide ha⟩⟩
end Bd
end Go.Proofs.YtdmeoooimnfmaaaGreatDoor
