/- The document's answer's lists of buddies, plainly: what is put in its place, what is taken out, the best one so far. -/
import Derived.Test.YtdmeoooimnfmaaaGreatDoorBud3
import Derived.Test.YtdmeoooimnfmaaaGreatDoorFit2
namespace Go.Proofs.YtdmeoooimnfmaaaGreatDoor
open Go.RowKit
namespace Bd
open Fr
theorem ins_at {x : Bl} : ∀ {L : List Bl} {j : Nat}, (∀ i (_ : i < j) (h : i < L.length), L[i].1 < x.1) → j ≤ L.length → (∀ h : j < L.length, x.1 < L[j].1) → ins x L = L.take j ++ x :: L.drop j
  | [], j, _, hj, _ => by
    obtain rfl : j = 0 := by simpa using hj
    rfl
  | y :: l, 0, _, _, h2 => by
    have := h2 (by simp)
    simp only [List.getElem_cons_zero] at this
    unfold ins; rw [if_pos this]; rfl
  | y :: l, j + 1, h1, hj, h2 => by
    have hy := h1 0 (by omega) (by simp)
    simp only [List.getElem_cons_zero] at hy
    unfold ins
    rw [if_neg (by omega), if_neg (by omega), ins_at (j := j) (fun i hi h => by have := h1 (i + 1) (by omega) (by simpa using h); simpa using this) (by simpa using hj) (fun h => by have := h2 (by simpa using h); simpa using this)]
    rfl
theorem erase_del : ∀ {L : List Bl} {k : Nat} (_ : Srt L) (h : k < L.length), L.take k ++ L.drop (k + 1) = del L[k].1 L
  | [], _, _, h => by simp at h
  | y :: l, 0, hs, _ => by
    rw [srt_cons] at hs
    simp only [List.take_zero, List.nil_append, List.drop_succ_cons, List.drop_zero, List.getElem_cons_zero]
    show l = List.filter _ (y :: l)
    rw [List.filter_cons]
    simp only [bne_self_eq_false, Bool.false_eq_true, if_false]
    exact (del_none (a := y.1) (fun z hz => by have := hs.1 z hz; omega)).symm
  | y :: l, k + 1, hs, h => by
    rw [srt_cons] at hs
    have hk : k < l.length := by simpa using h
    have := hs.1 l[k] (List.getElem_mem hk)
    simp only [List.take_succ_cons, List.drop_succ_cons, List.getElem_cons_succ, List.cons_append]
    rw [erase_del hs.2 hk]
    show _ = List.filter _ (y :: l)
    rw [List.filter_cons, if_pos (by simp only [bne_iff_ne, ne_eq]; omega)]
    rfl

/-- Of the first j blocks the first one of the least order that will do: its number (-1: none). -/
def bst (o : Int) (L : List Bl) : Nat → Int
  | 0 => -1
  | j + 1 => if o ≤ (L.getD j (0, 0)).2 ∧ (bst o L j < 0 ∨ (L.getD j (0, 0)).2 < (L.getD (bst o L j).toNat (0, 0)).2) then j else bst o L j
theorem bst_range (o : Int) (L : List Bl) : ∀ j, -1 ≤ bst o L j ∧ bst o L j < j
  | 0 => by simp [bst]
  | j + 1 => by
    have := bst_range o L j
    unfold bst
    split <;> omega
def flt (o : Int) (L : List Bl) : List Bl := L.filter (fun x => decide (o ≤ x.2))
theorem pk_append (M : List Bl) (y : Bl) : ∀ j, j < M.length → pk (M ++ [y]) j = pk M j
  | 0, h => by unfold pk; rw [getD_lt (by simp), getD_lt h, List.getElem_append_left h]
  | j + 1, h => by
    unfold pk
    rw [pk_append M y j (by omega), getD_lt (by simp; omega), getD_lt h, List.getElem_append_left h]
theorem bst_fit (o : Int) (L : List Bl) : ∀ j, j ≤ L.length → (bst o L j < 0 → flt o (L.take j) = []) ∧ (0 ≤ bst o L j → flt o (L.take j) ≠ [] ∧ L.getD (bst o L j).toNat (0, 0) = pk (flt o (L.take j)) ((flt o (L.take j)).length - 1))
  | 0, _ => by simp [bst, flt]
  | j + 1, h => by
    obtain ⟨h1, h2⟩ := bst_fit o L j (by omega)
    have hj : j < L.length := by omega
    have hr := bst_range o L j
    have ht : flt o (L.take (j + 1)) = flt o (L.take j) ++ flt o [L[j]] := by
      unfold flt
      rw [List.take_succ_eq_append_getElem hj, List.filter_append]
    have hg : L.getD j (0, 0) = L[j] := getD_lt hj
    unfold bst
    rw [hg, ht]
    by_cases ho : o ≤ L[j].2
    · have hf : flt o [L[j]] = [L[j]] := by simp [flt, ho]
      rw [hf]
      have hl : (flt o (L.take j) ++ [L[j]]).length - 1 = (flt o (L.take j)).length := by simp
      rw [hl]
      by_cases hb : bst o L j < 0
      · rw [if_pos ⟨ho, Or.inl hb⟩, h1 hb]
        refine ⟨fun h => by omega, fun _ => ⟨by simp, ?_⟩⟩
        rw [show ((j : Int)).toNat = j by omega, hg]
        rfl
      · obtain ⟨q1, q2⟩ := h2 (by omega)
        have hpos := List.length_pos_iff.2 q1
        obtain ⟨m, hm⟩ : ∃ m, (flt o (L.take j)).length = m + 1 := ⟨(flt o (L.take j)).length - 1, by omega⟩
        have hpk : pk (flt o (L.take j) ++ [L[j]]) (flt o (L.take j)).length = if L[j].2 < (L.getD (bst o L j).toNat (0, 0)).2 then L[j] else L.getD (bst o L j).toNat (0, 0) := by
          rw [q2, hm]
          show (if ((flt o (L.take j) ++ [L[j]]).getD (m + 1) (0, 0)).2 < (pk (flt o (L.take j) ++ [L[j]]) m).2 then _ else _) = _
          rw [pk_append _ _ m (by omega), getD_lt (by simp; omega), List.getElem_append_right (by omega)]
          simp [hm]
        by_cases hlt : L[j].2 < (L.getD (bst o L j).toNat (0, 0)).2
        · rw [if_pos ⟨ho, Or.inr hlt⟩, hpk, if_pos hlt]
          exact ⟨fun h => by omega, fun _ => ⟨by simp, by rw [show ((j : Int)).toNat = j by omega, hg]⟩⟩
        · rw [if_neg (by intro c; rcases c.2 with c | c; exact hb c; exact hlt c), hpk, if_neg hlt]
          exact ⟨fun h => absurd h hb, fun _ => ⟨by simp, rfl⟩⟩
    · have hf : flt o [L[j]] = [] := by simp [flt, ho]
      rw [if_neg (fun c => ho c.1), hf, List.append_nil]
      exact ⟨h1, h2⟩
/-- The best one of all is the one that 'fit' finds. -/
theorem bst_none {o : Int} {L : List Bl} (h : bst o L L.length < 0) : fit o L = none := by
  have := (bst_fit o L L.length (Nat.le_refl _)).1 h
  rw [List.take_length] at this
  show (if flt o L = [] then none else some (pk (flt o L) ((flt o L).length - 1))) = none
  rw [if_pos this]
theorem bst_some {o : Int} {L : List Bl} (h : 0 ≤ bst o L L.length) : ∃ hb : (bst o L L.length).toNat < L.length, fit o L = some L[(bst o L L.length).toNat] := by
  obtain ⟨h1, h2⟩ := (bst_fit o L L.length (Nat.le_refl _)).2 h
  rw [List.take_length] at h1 h2
  have hr := bst_range o L L.length
  have hb : (bst o L L.length).toNat < L.length := by omega
  refine ⟨hb, ?_⟩
  show (if flt o L = [] then none else some (pk (flt o L) ((flt o L).length - 1))) = _
  rw [if_neg h1, ← getD_lt hb, h2]
end Bd
end Go.Proofs.YtdmeoooimnfmaaaGreatDoor
