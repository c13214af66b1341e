/- The contract of package buddy's Pages: how many are free, in whatever order the map is gone through. -/
import Derived.Test.YtdmeoooimnfmaaaGreatDoorNew
import Derived.Maps.RangeWalk
namespace Go.Proofs.YtdmeoooimnfmaaaGreatDoor
open Go.RowKit Go.Maps
namespace Bd
open Fr
theorem pgs_del {x : Bl} {l : List Bl} (hs : Srt l) (h : x ∈ l) : pgs (del x.1 l) + pw x.2 = pgs l := by
  induction l with
  | nil => cases h
  | cons y l ih =>
    rw [srt_cons] at hs
    rcases List.mem_cons.1 h with h1 | h
    · subst h1
      have e : del x.1 (x :: l) = l := by
        show List.filter _ (x :: l) = l
        rw [List.filter_cons]
        simp only [bne_self_eq_false, Bool.false_eq_true, if_false]
        exact del_none (a := x.1) (fun y hy => by have := hs.1 y hy; omega)
      rw [e]; simp [pgs]; omega
    · have := hs.1 x h
      have e : del x.1 (y :: l) = y :: del x.1 l := by
        show List.filter _ (y :: l) = y :: List.filter _ l
        rw [List.filter_cons, if_pos (by simp only [bne_iff_ne, ne_eq]; omega)]
      rw [e]; have := ih hs.2 h; simp [pgs]; omega
theorem pgs_bd : ∀ {l : List Bl}, (∀ x ∈ l, 0 ≤ x.2 ∧ x.2 ≤ 6) → 0 ≤ pgs l ∧ pgs l ≤ 64 * l.length
  | [], _ => by simp [pgs]
  | x :: l, h => by
    have h1 := h x (List.mem_cons_self ..)
    have h2 := pgs_bd (l := l) (fun y hy => h y (List.mem_cons_of_mem _ hy))
    have h3 := pw_pos x.2
    have h4 := pw_le6 x.2 h1.1 h1.2
    simp [pgs]; omega
def lft (left : Lit → Bool) (F : List Bl) : List Bl := F.filter (fun x => left (.int .i64 x.1))
theorem lft_all (F : List Bl) : lft (Maps.has (dOf F)) F = F := List.filter_eq_self.2 (fun x hx => by rw [dOf_has]; simp; exact ⟨x.2, hx⟩)
theorem lft_none {left : Lit → Bool} (F : List Bl) (h : ∀ kl, left kl = false) : lft left F = [] := by unfold lft; rw [List.filter_eq_nil_iff]; intro x _; simp [h]
theorem lft_step (left : Lit → Bool) (F : List Bl) (a : Int) : lft (fun z => left z && !z.sameKey (.int .i64 a)) F = del a (lft left F) := by
  unfold lft del
  rw [List.filter_filter]
  apply List.filter_congr
  intro x _
  show (left _ && !(Lit.int .i64 x.1).sameKey (.int .i64 a)) = _
  rw [same_int, Bool.and_comm]
  rfl

set_option maxRecDepth 100000 in
set_option maxHeartbeats 4000000 in
theorem pages_free (b fm tm : Nat) (N : Int) (F T : List Bl) (w : World) (h : Bud w b fm tm N F T) :
    Calls Tryz.prog 18 #[ptr b] w fun ev w' => ev = .returned (.tuple #[.int .i64 (pgs F), .int .i64 N]) ∧ Below w.heap.size w w' := by
  have c1 := h.c1
  have hown := h.f.own
  have hbl := h.lt
  have hfl := h.f.lt
  have HB := hide h
  have hbd := pgs_bd (fun x hx => ⟨(h.f.rng x hx).2.2.1, (h.f.rng x hx).2.2.2⟩)
  have hlen := h.f.len
  have HS := hide h.f.srt
  have HRG := hide h.f.rng
  clear h
  unfold ptr
  go_enter Tryz.func18, Tryz.ntmps18
  go_wp2_with (first
    | (at_range; refine wpList_range_own _ rfl _ 52 rfl 3 3 law Tryz.underlying52 _ fm F.length _ rfl hown ?_; intro w0 hrg0 hg0 hs0)
    | go_in)
  go_frame
  go_loopw [2] (fun s wr => ∃ (left : Lit → Bool) (cnt : Nat) (q : Int), s = .int .i64 q ∧ 0 ≤ q ∧ wr.ranges Tryz.prog 3 (plainElem Tryz.prog 3) fm w.heap.size F.length (dOf F) left cnt ∧ Hid (q + pgs (lft left F) = pgs F) ∧ Below w.heap.size w wr)
    (fun _ wr => wr.rangeLeft fm w.heap.size)
  case atStart =>
    exact ⟨_, _, 0, rfl, by omega, hrg0, by show (0 : Int) + _ = _; rw [lft_all]; omega, (Below.refl _ _).grown hg0 (Nat.le_refl _) (fun j hj => by cases hj)⟩
  case round =>
    obtain ⟨left, cnt, q, rfl, hqq, hrg, hq, hnx⟩ := hrel
    go_wp2_with (first
      | (at_next; refine wpList_next_ranges_ii _ rfl _ rfl 3 3 .i64 .i64 law Tryz.underlying3 Tryz.underlying3 fm w.heap.size F.length _ _ _ rfl hrg ?_ ?_)
      | go_in)
    · intro hc0 hl0
      have hq2 := unhide hq
      rw [lft_none F hl0] at hq2
      have e : q = pgs F := by simpa [pgs] using hq2
      have HE := hide e
      clear e hq2 hq
      have k0 := (hnx.cell (p := ⟨b, 0, none⟩) hbl).trans (unhide HB).c0
      go_wp2_with fail
      go_quiet (fail)
      go_wp2
      go_ret2
      exact ⟨by rw [← unhide HE]; rfl, bdrN hnx _⟩
    · intro x c w1 cnt1 hwx hwc hlx hat hrg1 hlt hg1 hs1 hen
      have hmem : (x, c) ∈ F := by
        have h1 := Maps.has_true_of_atKey hat
        rw [dOf_has] at h1
        simp at h1
        obtain ⟨y, hy⟩ := h1
        have := dOf_at (unhide HS) hy (.nil)
        rw [hat] at this
        have e : c = y := by simpa using this
        rw [e]; exact hy
      have hr := (unhide HRG) _ hmem
      simp only at hr
      have hmem2 : (x, c) ∈ lft left F := List.mem_filter.2 ⟨hmem, hlx⟩
      have hd := pgs_del (l := lft left F) ((unhide HS).filter _) hmem2
      simp only at hd
      have hpos := (pgs_bd (l := del x (lft left F)) (fun y hy => by
        have := (unhide HRG) y (List.mem_filter.1 (mem_del.1 hy).1).1
        omega)).1
      have hp := pw_pos c
      have hp2 := pw_le6 c hr.2.2.1 hr.2.2.2
      have hq2 := unhide hq
      have hst := hide (lft_step left F x)
      obtain ⟨c0, c6⟩ := hr.2.2
      have hpk : (2 : Int) ^ c.toNat = pw c := rfl
      have HQ := hide (show q + pw c + pgs (del x (lft left F)) = pgs F by omega)
      generalize pw c = d at *
      clear hat hmem hmem2 hd hr
      have hq3 : q + d ≤ 16384 := by have := unhide HQ; omega
      go_wp2
      go_roundw
      case rel => exact ⟨_, cnt1, q + d, by go_num, by omega, hrg1, by show _ = _; rw [unhide hst]; exact unhide HQ, hnx.grown hg1 hnx.size (fun j hj => by cases hj; exact Nat.le_refl _)⟩
      case measure => rw [hrg1.left_eq, hrg.left_eq]; exact hlt
end Bd
end Go.Proofs.YtdmeoooimnfmaaaGreatDoor
