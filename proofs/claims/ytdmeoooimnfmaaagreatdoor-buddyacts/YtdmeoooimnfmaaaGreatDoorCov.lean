/- The plain list of blocks that covers pages: the widest order that fits, again and again. -/
import Derived.Test.YtdmeoooimnfmaaaGreatDoorSizes
namespace Go.Proofs.YtdmeoooimnfmaaaGreatDoor
open Go.RowKit
namespace Fr

/-- May a block of order j begin at a, with r pages left? -/
def cond (a r j : Int) : Bool := al a j && decide (pw j ≤ r)
def wid (a r : Int) : Int :=
  if cond a r 1 then (if cond a r 2 then (if cond a r 3 then (if cond a r 4 then (if cond a r 5 then (if cond a r 6 then 6 else 5) else 4) else 3) else 2) else 1) else 0
/-- All orders from 1 to j may. -/
def upto (a r j : Int) : Prop := ∀ i, 1 ≤ i → i ≤ j → cond a r i = true

theorem upto_zero (a r : Int) : upto a r 0 := fun i h1 h2 => by omega
theorem upto_succ {a r j : Int} (h : upto a r j) (hc : cond a r (j + 1) = true) : upto a r (j + 1) := fun i h1 h2 => by
  by_cases c : i = j + 1
  · rw [c]; exact hc
  · exact h i h1 (by omega)
theorem wid_of {a r j : Int} (h : upto a r j) (h0 : 0 ≤ j) (h6 : j ≤ 6) (he : j = 6 ∨ cond a r (j + 1) = false) : wid a r = j := by
  rcases orders j h0 h6 with rfl | rfl | rfl | rfl | rfl | rfl | rfl
  · have c1 : cond a r 1 = false := by rcases he with h | h; omega; exact h
    simp [wid, c1]
  · have c2 : cond a r 2 = false := by rcases he with h | h; omega; exact h
    simp [wid, h 1 (by omega) (by omega), c2]
  · have c3 : cond a r 3 = false := by rcases he with h | h; omega; exact h
    simp [wid, h 1 (by omega) (by omega), h 2 (by omega) (by omega), c3]
  · have c4 : cond a r 4 = false := by rcases he with h | h; omega; exact h
    simp [wid, h 1 (by omega) (by omega), h 2 (by omega) (by omega), h 3 (by omega) (by omega), c4]
  · have c5 : cond a r 5 = false := by rcases he with h | h; omega; exact h
    simp [wid, h 1 (by omega) (by omega), h 2 (by omega) (by omega), h 3 (by omega) (by omega), h 4 (by omega) (by omega), c5]
  · have c6 : cond a r 6 = false := by rcases he with h | h; omega; exact h
    simp [wid, h 1 (by omega) (by omega), h 2 (by omega) (by omega), h 3 (by omega) (by omega), h 4 (by omega) (by omega), h 5 (by omega) (by omega), c6]
  · simp [wid, h 1 (by omega) (by omega), h 2 (by omega) (by omega), h 3 (by omega) (by omega), h 4 (by omega) (by omega), h 5 (by omega) (by omega), h 6 (by omega) (by omega)]
theorem al_zero (a : Int) : al a 0 = true := by simp [al, pw0]
theorem wid_facts (a r : Int) (hr : 1 ≤ r) : 0 ≤ wid a r ∧ wid a r ≤ 6 ∧ al a (wid a r) = true ∧ pw (wid a r) ≤ r := by
  have hz : 0 ≤ (0 : Int) ∧ (0 : Int) ≤ 6 ∧ al a 0 = true ∧ pw 0 ≤ r := ⟨by omega, by omega, al_zero a, by rw [pw0]; omega⟩
  have hc : ∀ j, 0 ≤ j → j ≤ 6 → cond a r j = true → 0 ≤ j ∧ j ≤ 6 ∧ al a j = true ∧ pw j ≤ r := fun j h0 h6 h => by
    simp [cond] at h; exact ⟨h0, h6, h.1, h.2⟩
  unfold wid
  by_cases c1 : cond a r 1 = true
  · rw [if_pos c1]
    by_cases c2 : cond a r 2 = true
    · rw [if_pos c2]
      by_cases c3 : cond a r 3 = true
      · rw [if_pos c3]
        by_cases c4 : cond a r 4 = true
        · rw [if_pos c4]
          by_cases c5 : cond a r 5 = true
          · rw [if_pos c5]
            by_cases c6 : cond a r 6 = true
            · rw [if_pos c6]; exact hc 6 (by omega) (by omega) c6
            · rw [if_neg c6]; exact hc 5 (by omega) (by omega) c5
          · rw [if_neg c5]; exact hc 4 (by omega) (by omega) c4
        · rw [if_neg c4]; exact hc 3 (by omega) (by omega) c3
      · rw [if_neg c3]; exact hc 2 (by omega) (by omega) c2
    · rw [if_neg c2]; exact hc 1 (by omega) (by omega) c1
  · rw [if_neg c1]; exact hz

/-- The blocks that cover r pages from a on (f: fuel). -/
def cov : Nat → Int → Int → List (Int × Int)
  | 0, _, _ => []
  | f + 1, a, r => if r ≤ 0 then [] else (a, wid a r) :: cov f (a + pw (wid a r)) (r - pw (wid a r))
theorem cov_two : ∀ (f g : Nat) (a r : Int), r.toNat ≤ f → r.toNat ≤ g → cov f a r = cov g a r
  | 0, 0, _, _, _, _ => rfl
  | 0, g + 1, a, r, h, _ => by
    have hr : r ≤ 0 := by omega
    simp [cov, hr]
  | f + 1, 0, a, r, _, h => by
    have hr : r ≤ 0 := by omega
    simp [cov, hr]
  | f + 1, g + 1, a, r, h1, h2 => by
    by_cases hr : r ≤ 0
    · simp [cov, hr]
    · have hw := wid_facts a r (by omega)
      have hp := pw_pos (wid a r)
      simp only [cov, if_neg hr]
      rw [cov_two f g _ _ (by omega) (by omega)]
theorem cov_fuel (f : Nat) (a r : Int) (h : r.toNat ≤ f) : cov f a r = cov r.toNat a r := cov_two _ _ _ _ h (Nat.le_refl _)
/-- The covering of r pages from a on. -/
def cv (a r : Int) : List (Int × Int) := cov r.toNat a r
theorem cv_nil (a r : Int) (h : r ≤ 0) : cv a r = [] := by
  unfold cv; rw [show r.toNat = 0 from by omega]; rfl
theorem cv_cons (a r : Int) (h : 1 ≤ r) : cv a r = (a, wid a r) :: cv (a + pw (wid a r)) (r - pw (wid a r)) := by
  have hp := pw_pos (wid a r)
  unfold cv
  obtain ⟨g, hg⟩ : ∃ g, r.toNat = g + 1 := ⟨r.toNat - 1, by omega⟩
  rw [hg]
  simp only [cov, if_neg (show ¬ r ≤ 0 by omega)]
  rw [cov_fuel g _ _ (by omega)]

/-- The cells of a list of blocks. -/
def flat (l : List (Int × Int)) : List Value := l.flatMap fun x => [.int .i64 x.1, .int .i64 x.2]
theorem flat_snoc (l : List (Int × Int)) (x : Int × Int) : flat (l ++ [x]) = flat l ++ [.int .i64 x.1, .int .i64 x.2] := by simp [flat]
theorem flat_length (l : List (Int × Int)) : (flat l).length = l.length * 2 := by
  induction l with
  | nil => rfl
  | cons x l ih => simp [flat] at ih ⊢; omega
theorem flat_get : ∀ (l : List (Int × Int)) (i : Nat) (h : i < l.length), (flat l)[2 * i]? = some (.int .i64 (l[i]).1) ∧ (flat l)[2 * i + 1]? = some (.int .i64 (l[i]).2)
  | x :: l, 0, _ => by simp [flat]
  | x :: l, i + 1, h => by
    have := flat_get l i (by simpa using h)
    have e1 : 2 * (i + 1) = 2 * i + 2 := by omega
    rw [e1]
    simp only [flat, List.flatMap_cons, List.getElem_cons_succ] at this ⊢
    simpa using this
/-- The number of blocks: no more than the pages. -/
theorem cov_length : ∀ (f : Nat) (a r : Int), (cov f a r).length ≤ f
  | 0, _, _ => by simp [cov]
  | f + 1, a, r => by
    unfold cov
    split
    · simp
    · have := cov_length f (a + pw (wid a r)) (r - pw (wid a r)); simp; omega
theorem cv_length (a r : Int) : (cv a r).length ≤ r.toNat := cov_length _ _ _
end Fr
end Go.Proofs.YtdmeoooimnfmaaaGreatDoor
