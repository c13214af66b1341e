/- The contracts of package buddy's put and has. -/
import Derived.Test.YtdmeoooimnfmaaaGreatDoorMp
namespace Go.Proofs.YtdmeoooimnfmaaaGreatDoor
open Go.RowKit Go.Maps
namespace Bd
open Fr
theorem law : Keyed Tryz.prog 3 := int_keyed Tryz.underlying3
theorem zero3 (w : World) : (zeroValue 3).run Tryz.prog w = .ok (.int .i64 0) w := by kernel_rfl

theorem put_ok (x : Bl) (m : Nat) (L : List Bl) (w : World) (h : Mp w m L) (hx : 0 ≤ x.1 ∧ x.1 < 256 ∧ 0 ≤ x.2 ∧ x.2 ≤ 6) :
    Calls Tryz.prog 20 #[.map (some m), blkV x.1 x.2] w fun ev w' => ev = .returned (.tuple #[]) ∧ Mp w' m (ins x L) ∧ Kept m m w w' := by
  have hl := h.len
  have hown := (h.a (blkO x.1 x.2)).own
  have HM := hide h
  have HX := hide hx
  have w1 := wf_small hx.1 hx.2.1
  have w2 := wf_small hx.2.2.1 (by omega)
  clear h hx
  obtain ⟨a, k⟩ := x
  simp only at *
  go_enter Tryz.func20, Tryz.ntmps20
  go_wp2_with (at_mapUpdate; refine wpList_mapUpdate_in _ rfl _ _ _ 52 rfl 3 3 law Tryz.underlying52 _ m L.length _ rfl hown (by unfold maxLen; omega) _ _ _ rfl rfl (keyOf_int_mk Tryz.underlying3 w1) _ [] (plainElem_int Tryz.underlying3 w2) ?_; intro w9 hown9 hturn9)
  go_end0
  exact ⟨rfl, (unhide HM).put (x := (a, k)) (unhide HX) hown9, (kept_alloc _ _ _ _).trans (kept_turned hturn9 (Or.inl rfl))⟩

theorem has_ok (x : Bl) (m : Nat) (L : List Bl) (w : World) (h : Mp w m L) (hx : (Lit.int .i64 x.1).wf = true) :
    Calls Tryz.prog 28 #[.map (some m), blkV x.1 x.2] w fun ev w' => ev = .returned (.bool (decide (x ∈ L))) ∧ Below w.heap.size w w' := by
  have hown := (h.a (blkO x.1 x.2)).own
  have w1 := hx
  have HM := hide h
  clear h hx
  obtain ⟨a, k⟩ := x
  simp only at *
  by_cases hh : ∃ y ∈ L, y.1 = a
  · obtain ⟨⟨ya, yk⟩, hy, rfl⟩ := hh
    have e1 : Maps.has (dOf L) (.int .i64 ya) = true := by rw [dOf_has]; simp; exact ⟨yk, hy⟩
    have e2 := fun z => dOf_at (unhide HM).srt hy z
    simp only at e2 w1 hown
    have e3 : decide ((ya, k) ∈ L) = (yk == k) := by
      by_cases c : yk = k
      · subst c; simp [hy]
      · have : (ya, k) ∉ L := fun hc => c (by have := srt_key (unhide HM).srt hy hc rfl; exact congrArg Prod.snd this)
        simp [this, c]
    have HE2 := hide e2
    have HE3 := hide e3
    clear e2 e3 hy
    go_enter Tryz.func28, Tryz.ntmps28
    go_wp2_with (at_lookup; refine wpList_lookup_own_ok_int _ rfl _ _ 52 rfl 3 3 .i64 law Tryz.underlying52 Tryz.underlying3 (zero3 _) m L.length _ rfl hown _ _ rfl (keyOf_int_mk Tryz.underlying3 w1) ?_; intro c hat hwc; rw [e1])
    have hc : c = yk := by
      have := (unhide HE2) (.lit (.int .i64 0))
      rw [this] at hat
      simpa using hat.symm
    subst hc
    go_ret
    exact ⟨by rw [unhide HE3]; rfl, ballo (Below.refl _ _) _⟩
  · have e1 : Maps.has (dOf L) (.int .i64 a) = false := by rw [dOf_has]; simp; intro p q hp e; exact hh ⟨_, hp, e⟩
    have e3 : decide ((a, k) ∈ L) = false := by
      have : (a, k) ∉ L := fun hc => hh ⟨_, hc, rfl⟩
      simp [this]
    have HE3 := hide e3
    clear e3 hh
    go_enter Tryz.func28, Tryz.ntmps28
    go_wp2_with (at_lookup; refine wpList_lookup_own_ok_int _ rfl _ _ 52 rfl 3 3 .i64 law Tryz.underlying52 Tryz.underlying3 (zero3 _) m L.length _ rfl hown _ _ rfl (keyOf_int_mk Tryz.underlying3 w1) ?_; intro c hat hwc; rw [e1])
    go_ret
    exact ⟨by rw [unhide HE3]; rfl, ballo (Below.refl _ _) _⟩
end Bd
end Go.Proofs.YtdmeoooimnfmaaaGreatDoor
