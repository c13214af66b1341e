/- What is free at the beginning, and again when nothing is taken: the cover. Plain arithmetic. -/
import Derived.Test.YtdmeoooimnfmaaaGreatDoorBud2
namespace Go.Proofs.YtdmeoooimnfmaaaGreatDoor
open Go.RowKit
namespace Bd
open Fr
def seg (a t p : Int) : Nat := if a ≤ p ∧ p < t then 1 else 0
theorem cv_facts : ∀ (n : Nat) (a r : Int), r.toNat = n → Srt (cv a r) ∧ (∀ p, cnt p (cv a r) = seg a (a + r) p) ∧ ∀ x ∈ cv a r, a ≤ x.1 ∧ x.1 + pw x.2 ≤ a + r ∧ Okb x ∧ x.2 = wid x.1 (a + r - x.1) := by
  intro n
  induction n using Nat.strongRecOn with
  | _ n ih =>
    intro a r hn
    by_cases hr : r ≤ 0
    · rw [cv_nil a r hr]
      refine ⟨srt_nil, fun p => ?_, fun x hx => by cases hx⟩
      unfold seg; rw [if_neg (by omega)]; rfl
    · have hw := wid_facts a r (by omega)
      have hp := pw_pos (wid a r)
      obtain ⟨h1, h2, h3⟩ := ih (r - pw (wid a r)).toNat (by omega) (a + pw (wid a r)) (r - pw (wid a r)) rfl
      rw [show a + pw (wid a r) + (r - pw (wid a r)) = a + r by omega] at h2 h3
      rw [cv_cons a r (by omega)]
      refine ⟨srt_cons.2 ⟨fun y hy => by have := (h3 y hy).1; simp only; omega, h1⟩, fun p => ?_, fun x hx => ?_⟩
      · simp only [cnt]
        rw [h2]
        unfold inb seg
        simp only
        by_cases c1 : a ≤ p ∧ p < a + pw (wid a r)
        · rw [if_pos c1, if_neg (by omega), if_pos (by omega)]
        · rw [if_neg c1]
          by_cases c2 : a + pw (wid a r) ≤ p ∧ p < a + r
          · rw [if_pos c2, if_pos (by omega)]
          · rw [if_neg c2, if_neg (by omega)]
      · rcases List.mem_cons.1 hx with rfl | hx
        · refine ⟨Int.le_refl _, by simp only; omega, ⟨hw.1, hw.2.1, (al_dvd _ _).1 hw.2.2.1⟩, ?_⟩
          simp only
          rw [show a + r - a = r by omega]
        · have := h3 x hx
          exact ⟨by omega, this.2.1, this.2.2⟩

theorem cv_inv (N : Int) (_h0 : 0 ≤ N) : Inv N (cv 0 N) [] := by
  obtain ⟨h1, h2, h3⟩ := cv_facts N.toNat 0 N rfl
  rw [show (0 : Int) + N = N by omega] at h2 h3
  refine ⟨h1, srt_nil, fun y hy => (h3 y hy).2.2.1, fun y hy => (by cases hy), fun p => (by rw [h2]; rfl), fun y hy h6 hb => ?_⟩
  -- of two buddies the lower one would have been wider
  have key : ∀ a k : Int, 0 ≤ k → k < 6 → pw (k + 1) ∣ a → (a, k) ∈ cv 0 N → (a + pw k, k) ∈ cv 0 N → False := fun a k k0 k6 hd q1 q2 => by
    have e1 := (h3 _ q1).2.2.2
    have e2 := (h3 _ q2).2.1
    simp only at e1 e2
    have hs := pw_succ k k0
    have := wid_max (a := a) (r := N - a) (j := k + 1) (by omega) (by omega) hd (by omega)
    omega
  have ho := (h3 y hy).2.2.1
  unfold Okb at ho
  rcases low_or_high ho.1 ho.2.2 with c | c
  · rw [bud_low ho.1 c] at hb
    exact key y.1 y.2 ho.1 h6 c hy hb
  · have e := bud_high ho.1 c
    rw [show y.1 - pw y.2 + pw y.2 = y.1 by omega] at e
    rw [e] at hb
    exact key (y.1 - pw y.2) y.2 ho.1 h6 c hb (by rw [show y.1 - pw y.2 + pw y.2 = y.1 by omega]; exact hy)

theorem uniq {N : Int} : ∀ (n : Nat) (a : Int) (F : List Bl), (N - a).toNat = n → a ≤ N → Srt F → (∀ x ∈ F, Okb x) → (∀ p, cnt p F = seg a N p) → (∀ x ∈ F, x.2 ≤ 5 → pw (x.2 + 1) ∣ x.1 → x.1 + pw (x.2 + 1) ≤ N → False) → F = cv a (N - a) := by
  intro n
  induction n using Nat.strongRecOn with
  | _ n ih =>
    intro a F hn haN hs ho hc hl
    by_cases hr : N - a ≤ 0
    · rw [cv_nil _ _ hr]
      cases F with
      | nil => rfl
      | cons y l =>
        have h1 := cnt_mem (p := y.1) (List.mem_cons_self (a := y) (l := l))
        rw [inb_at, hc] at h1
        unfold seg at h1
        rw [if_neg (by omega)] at h1
        omega
    · cases F with
      | nil =>
        have := hc a
        simp only [cnt, seg] at this
        rw [if_pos (by omega)] at this
        cases this
      | cons y l =>
        have hy : y ∈ y :: l := List.mem_cons_self ..
        rw [srt_cons] at hs
        have hp := pw_pos y.2
        -- the first block begins at a
        have hin : a ≤ y.1 := by
          have h1 := cnt_mem (p := y.1) hy
          rw [inb_at, hc] at h1
          unfold seg at h1
          split at h1 <;> omega
        have hya : y.1 = a := by
          have h1 := hc a
          unfold seg at h1
          rw [if_pos (by omega)] at h1
          obtain ⟨z, hz, z1, z2⟩ := cnt_pos (p := a) (l := y :: l) (by omega)
          rcases List.mem_cons.1 hz with e | hz
          · rw [e] at z1; omega
          · have := hs.1 z hz; omega
        have hend : a + pw y.2 ≤ N := by
          have h1 := cnt_mem (p := y.1 + pw y.2 - 1) hy
          rw [inb_one.2 (by omega), hc] at h1
          unfold seg at h1
          split at h1 <;> omega
        have oy := ho y hy
        unfold Okb at oy
        have hd : pw y.2 ∣ a := by rw [← hya]; exact oy.2.2
        have hw := wid_facts a (N - a) (by omega)
        have hle := wid_max (a := a) (r := N - a) oy.1 oy.2.1 hd (by omega)
        have hord : y.2 = wid a (N - a) := by
          refine Int.le_antisymm hle (Int.not_lt.1 fun hlt => ?_)
          have hd2 : pw (y.2 + 1) ∣ a := Int.dvd_trans (pw_dvd (by omega) (by omega)) ((al_dvd _ _).1 hw.2.2.1)
          have hp2 := Int.le_of_dvd (pw_pos (wid a (N - a))) (pw_dvd (show 0 ≤ y.2 + 1 by omega) (show y.2 + 1 ≤ wid a (N - a) by omega))
          exact hl y hy (by omega) (by rw [hya]; exact hd2) (by omega)
        rw [cv_cons a (N - a) (by omega), ← hord]
        have ey : y = (a, y.2) := Prod.ext hya rfl
        have tl := ih (N - (a + pw y.2)).toNat (by omega) (a + pw y.2) l rfl hend hs.2 (fun x hx => ho x (List.mem_cons_of_mem _ hx)) (fun p => by
          have h1 := hc p
          simp only [cnt] at h1
          unfold seg at h1 ⊢
          unfold inb at h1
          rw [hya] at h1
          by_cases c1 : a ≤ p ∧ p < a + pw y.2
          · rw [if_pos c1, if_pos (by omega)] at h1
            rw [if_neg (by omega)]; omega
          · rw [if_neg c1] at h1
            by_cases c2 : a ≤ p ∧ p < N
            · rw [if_pos c2] at h1; rw [if_pos (by omega)]; omega
            · rw [if_neg c2] at h1; rw [if_neg (by omega)]; omega) (fun x hx => hl x (List.mem_cons_of_mem _ hx))
        rw [show N - a - pw y.2 = N - (a + pw y.2) by omega, ← tl]
        rw [← ey]
/-- Nothing taken: what is free is what was free at the beginning. -/
theorem all_free {N : Int} {F : List Bl} (h : Inv N F []) (h0 : 0 ≤ N) : F = cv 0 N := by
  have := uniq N.toNat 0 F (by rw [show N - 0 = N by omega]) h0 h.sF h.oF (fun p => by have := h.one p; simp only [cnt] at this; unfold seg; unfold ind at this; omega) (fun x hx h5 hd hN => no_low h x.2.toNat x.1 x.2 rfl hx h5 hd hN)
  rw [show N - 0 = N by omega] at this
  exact this
theorem ins_last {x : Bl} : ∀ {l : List Bl}, (∀ y ∈ l, y.1 < x.1) → ins x l = l ++ [x]
  | [], _ => rfl
  | y :: l, h => by
    have h1 := h y (List.mem_cons_self ..)
    unfold ins
    rw [if_neg (by omega), if_neg (by omega), ins_last (fun z hz => h z (List.mem_cons_of_mem _ hz))]
    rfl
theorem ins_take {L : List Bl} (h : Srt L) {j : Nat} (hj : j < L.length) : ins L[j] (L.take j) = L.take (j + 1) := by
  rw [List.take_succ_eq_append_getElem hj]
  refine ins_last (fun y hy => ?_)
  obtain ⟨m, hm, rfl⟩ := List.getElem_of_mem hy
  have hm2 : m < j := by simp at hm; omega
  rw [List.getElem_take]
  exact List.pairwise_iff_getElem.1 h m j (by omega) hj hm2

/-- The pages that are free. -/
def pgs : List Bl → Int
  | [] => 0
  | x :: l => pw x.2 + pgs l
end Bd
end Go.Proofs.YtdmeoooimnfmaaaGreatDoor
