/- Buddies: halving, joining; what was at the beginning is there again when nothing is taken. Plain arithmetic. -/
import Derived.Test.YtdmeoooimnfmaaaGreatDoorBud
namespace Go.Proofs.YtdmeoooimnfmaaaGreatDoor
open Go.RowKit
namespace Bd
open Fr

/-- The lower half of an aligned block, its upper one: halves, and each other's buddies. -/
theorem half_dvd {a k : Int} (k1 : 1 ≤ k) (h : pw k ∣ a) : pw (k - 1) ∣ a ∧ pw (k - 1) ∣ a + pw (k - 1) ∧ pw k = 2 * pw (k - 1) := by
  have h1 : pw (k - 1) ∣ a := Int.dvd_trans (pw_dvd (by omega) (by omega)) h
  have h2 := pw_succ (k - 1) (by omega)
  rw [show k - 1 + 1 = k from by omega] at h2
  exact ⟨h1, Int.dvd_add h1 (Int.dvd_refl _), h2⟩
theorem div_even {a k : Int} (k0 : 0 ≤ k) (h : pw (k + 1) ∣ a) : a / pw k % 2 = 0 := by
  obtain ⟨c, rfl⟩ := h
  have hp := pw_pos k
  rw [pw_succ k k0, show 2 * pw k * c = pw k * (2 * c) from by rw [Int.mul_comm 2 (pw k), Int.mul_assoc], Int.mul_ediv_cancel_left _ (by omega)]
  omega
theorem bud_low {a k : Int} (k0 : 0 ≤ k) (h : pw (k + 1) ∣ a) : bud a k = a + pw k := by
  unfold bud; rw [if_pos (div_even k0 h)]
theorem bud_high {a k : Int} (k0 : 0 ≤ k) (h : pw (k + 1) ∣ a) : bud (a + pw k) k = a := by
  have hp := pw_pos k
  unfold bud
  have e : (a + pw k) / pw k = a / pw k + 1 := Int.add_ediv_of_dvd_right (Int.dvd_refl _) |>.trans (by rw [Int.ediv_self (by omega)])
  have := div_even k0 h
  rw [if_neg (by rw [e]; omega)]; omega
/-- An aligned block is the lower or the upper half of its parent. -/
theorem low_or_high {a k : Int} (k0 : 0 ≤ k) (h : pw k ∣ a) : pw (k + 1) ∣ a ∨ pw (k + 1) ∣ a - pw k := by
  obtain ⟨c, rfl⟩ := h
  rw [pw_succ k k0]
  rcases (by omega : c % 2 = 0 ∨ c % 2 = 1) with e | e
  · left
    obtain ⟨d, rfl⟩ : ∃ d, c = 2 * d := ⟨c / 2, by omega⟩
    exact ⟨d, by rw [Int.mul_comm 2 (pw k), Int.mul_assoc]⟩
  · right
    obtain ⟨d, rfl⟩ : ∃ d, c = 2 * d + 1 := ⟨c / 2, by omega⟩
    exact ⟨d, by rw [Int.mul_add, Int.mul_comm 2 (pw k), Int.mul_assoc]; omega⟩
theorem inb_halves (p a k : Int) (h : 0 ≤ k) : inb p (a, k + 1) = inb p (a, k) + inb p (a + pw k, k) := by
  have := pw_succ k h
  have := pw_pos k
  unfold inb
  simp only
  by_cases c1 : a ≤ p ∧ p < a + pw (k + 1)
  · rw [if_pos c1]
    by_cases c2 : p < a + pw k
    · rw [if_pos ⟨c1.1, c2⟩, if_neg (by omega)]
    · rw [if_neg (by omega), if_pos (by omega)]
  · rw [if_neg c1, if_neg (by omega), if_neg (by omega)]

/-- The hole is halved: the upper half is free. -/
theorem HInv.halve {N : Int} {F T : List Bl} {a k : Int} (h : HInv N F T (a, k)) (k1 : 1 ≤ k) : HInv N (ins (a + pw (k - 1), k - 1) F) T (a, k - 1) := by
  obtain ⟨hd1, hd2, hd3⟩ := half_dvd k1 h.ox.2.2
  have hp := pw_pos (k - 1)
  have hal : pw (k - 1 + 1) ∣ a := by rw [show k - 1 + 1 = k from by omega]; exact h.ox.2.2
  have ho := h.ox
  unfold Okb at ho
  simp only at ho hd1 hd2 hd3
  have off : ∀ y ∈ F, y.1 ≠ a ∧ y.1 ≠ a + pw (k - 1) := fun y hy => by
    have := h.offF hy; simp only at this; constructor <;> omega
  refine ⟨srt_ins h.sF, h.sT, fun y hy => ?_, h.oT, ⟨by simp only; omega, by simp only; omega, hd1⟩, fun p => ?_, fun y hy h6 hb => ?_⟩
  · rcases mem_ins_sub hy with rfl | hy
    · exact ⟨by simp only; omega, by simp only; omega, hd2⟩
    · exact h.oF y hy
  · rw [cnt_ins p (fun y hy => (off y hy).2)]
    have h1 := h.one p
    have h2 := inb_halves p a (k - 1) (by omega)
    rw [show k - 1 + 1 = k from by omega] at h2
    omega
  · rcases mem_ins_sub hy with rfl | hy
    · simp only at hb
      rw [bud_high (by omega) hal] at hb
      rcases mem_ins_sub hb with e | hb
      · have := congrArg Prod.fst e; simp only at this; omega
      · exact (off _ hb).1 rfl
    · rcases mem_ins_sub hb with e | hb
      · have e1 := congrArg Prod.fst e
        have e2 := congrArg Prod.snd e
        simp only at e1 e2
        -- y is the low half
        have : y.1 = a := by
          have ey := h.oF y hy
          unfold Okb at ey
          rcases low_or_high (k := y.2) (by omega) ey.2.2 with c | c
          · rw [bud_low (by omega) c] at e1
            rw [e2] at e1; omega
          · have := bud_high (a := y.1 - pw y.2) (by omega) c
            rw [show y.1 - pw y.2 + pw y.2 = y.1 from by omega] at this
            rw [this] at e1
            rw [e2] at e1 c
            -- y.1 = a + 2 * pw (k-1), and its lower half begins at a + pw (k-1)
            exfalso
            rw [e1] at c
            have c2 := Int.dvd_sub c hal
            rw [show a + pw (k - 1) - a = pw (k - 1) from by omega, pw_succ (k - 1) (by omega)] at c2
            have := Int.le_of_dvd (by omega) c2
            omega
        exact (off y hy).1 this
      · exact h.nob y hy h6 hb

/-- The block's buddy, which is free, is joined to it. -/
theorem HInv.join {N : Int} {F T : List Bl} {a k : Int} (h : HInv N F T (a, k)) (k5 : k ≤ 5) (hb : (bud a k, k) ∈ F) : HInv N (del (bud a k) F) T (par a k, k + 1) := by
  have ho := h.ox
  unfold Okb at ho
  simp only at ho
  have hp := pw_pos k
  have hpar : pw (k + 1) ∣ par a k := Int.dvd_mul_left _ _
  have key : (pw (k + 1) ∣ a ∧ bud a k = a + pw k ∧ par a k = a) ∨ (pw (k + 1) ∣ a - pw k ∧ bud a k = a - pw k ∧ par a k = a - pw k) := by
    rcases low_or_high ho.1 ho.2.2 with c | c
    · exact Or.inl ⟨c, bud_low ho.1 c, by unfold par; exact Int.ediv_mul_cancel c⟩
    · refine Or.inr ⟨c, ?_, ?_⟩
      · have := bud_high ho.1 c
        rw [show a - pw k + pw k = a from by omega] at this; exact this
      · unfold par
        obtain ⟨d, hd⟩ := c
        have h2 := pw_succ k ho.1
        have : a / pw (k + 1) = d := by
          rw [show a = pw k + pw (k + 1) * d from by omega, Int.add_mul_ediv_left _ _ (by omega), Int.ediv_eq_zero_of_lt (by omega) (by omega)]; omega
        rw [this, Int.mul_comm]; omega
  refine ⟨srt_del h.sF, h.sT, fun y hy => h.oF y (mem_del.1 hy).1, h.oT, ⟨by simp only; omega, by simp only; omega, hpar⟩, fun p => ?_, fun y hy h6 hb => h.nob y (mem_del.1 hy).1 h6 (mem_del.1 hb).1⟩
  have h1 := h.one p
  have h2 := cnt_del p h.sF hb
  simp only at h2
  rcases key with ⟨_, e1, e2⟩ | ⟨_, e1, e2⟩
  · have h3 := inb_halves p a k ho.1
    rw [e2]; rw [e1] at h2 ⊢; omega
  · have h3 := inb_halves p (a - pw k) k ho.1
    rw [show a - pw k + pw k = a from by omega] at h3
    rw [e2]; rw [e1] at h2 ⊢; omega
theorem min_par {a k : Int} (k0 : 0 ≤ k) (h : pw k ∣ a) : par a k = if a ≤ bud a k then a else bud a k := by
  have hp := pw_pos k
  rcases low_or_high k0 h with c | c
  · rw [bud_low k0 c, if_pos (by omega)]; unfold par; exact Int.ediv_mul_cancel c
  · have e := bud_high k0 c
    rw [show a - pw k + pw k = a from by omega] at e
    rw [e, if_neg (by omega)]
    unfold par
    obtain ⟨d, hd⟩ := c
    have h2 := pw_succ k k0
    have : a / pw (k + 1) = d := by
      rw [show a = pw k + pw (k + 1) * d from by omega, Int.add_mul_ediv_left _ _ (by omega), Int.ediv_eq_zero_of_lt (by omega) (by omega)]; omega
    rw [this, Int.mul_comm]; omega
/-- A buddy's buddy. -/
theorem bud_bud {a k : Int} (k0 : 0 ≤ k) (h : pw k ∣ a) : bud (bud a k) k = a := by
  rcases low_or_high k0 h with c | c
  · rw [bud_low k0 c, bud_high k0 c]
  · have e := bud_high k0 c
    rw [show a - pw k + pw k = a from by omega] at e
    rw [e, bud_low k0 c]; omega
theorem bud_dvd {a k : Int} (_k0 : 0 ≤ k) (h : pw k ∣ a) : pw k ∣ bud a k := by
  unfold bud; split
  · exact Int.dvd_add h (Int.dvd_refl _)
  · exact Int.dvd_sub h (Int.dvd_refl _)
/-- The hole, whose buddy isn't free, is free. -/
theorem HInv.inFree {N : Int} {F T : List Bl} {x : Bl} (h : HInv N F T x) (hb : x.2 = 6 ∨ (bud x.1 x.2, x.2) ∉ F) : Inv N (ins x F) T := by
  have hp := pw_pos x.2
  have ho := h.ox
  unfold Okb at ho
  refine ⟨srt_ins h.sF, h.sT, fun y hy => by rcases mem_ins_sub hy with rfl | hy; exact h.ox; exact h.oF y hy, h.oT,
    fun p => by rw [cnt_ins p (fun y hy => fun e => h.offF hy (by omega))]; have := h.one p; omega, fun y hy h6 hy2 => ?_⟩
  rcases mem_ins_sub hy with rfl | hy
  · rcases mem_ins_sub hy2 with e | hy2
    · have e1 := congrArg Prod.fst e
      simp only at e1
      unfold bud at e1
      split at e1 <;> omega
    · rcases hb with hb | hb
      · omega
      · exact hb hy2
  · rcases mem_ins_sub hy2 with e | hy2
    · have e1 := congrArg Prod.fst e
      have e2 := congrArg Prod.snd e
      simp only at e1 e2
      have oy := h.oF y hy
      unfold Okb at oy
      have := bud_bud oy.1 oy.2.2
      rw [e1, e2] at this
      rcases hb with hb | hb
      · omega
      · exact hb (by rw [this, ← e2]; exact hy)
    · exact h.nob y hy h6 hy2

/-- What was taken as one is taken as its halves. -/
theorem Inv.split {N : Int} {F T : List Bl} {a k : Int} (h : Inv N F T) (hx : (a, k) ∈ T) (k1 : 1 ≤ k) : Inv N F (ins (a + pw (k - 1), k - 1) (ins (a, k - 1) T)) := by
  have ho := h.oT _ hx
  unfold Okb at ho
  simp only at ho
  obtain ⟨hd1, hd2, hd3⟩ := half_dvd k1 ho.2.2
  have hp := pw_pos (k - 1)
  have H := h.outT hx
  have off : ∀ y ∈ del a T, y.1 ≠ a ∧ y.1 ≠ a + pw (k - 1) := fun y hy => by
    have := H.offT hy; simp only at this; constructor <;> omega
  -- 'ins (a, k - 1) T' is 'ins (a, k - 1)' of T without the block
  have e : ins (a, k - 1) T = ins (a, k - 1) (del a T) := srt_ext (srt_ins h.sT) (srt_ins (srt_del h.sT)) (fun y => by
    rw [mem_ins h.sT, mem_ins (srt_del h.sT), mem_del]
    constructor
    · rintro (h | ⟨h, h2⟩)
      · exact Or.inl h
      · exact Or.inr ⟨⟨h, h2⟩, h2⟩
    · rintro (h | ⟨⟨h, h2⟩, _⟩)
      · exact Or.inl h
      · exact Or.inr ⟨h, h2⟩)
  rw [e]
  refine ⟨h.sF, srt_ins (srt_ins (srt_del h.sT)), h.oF, fun y hy => ?_, fun p => ?_, h.nob⟩
  · rcases mem_ins_sub hy with rfl | hy
    · exact ⟨by simp only; omega, by simp only; omega, hd2⟩
    · rcases mem_ins_sub hy with rfl | hy
      · exact ⟨by simp only; omega, by simp only; omega, hd1⟩
      · exact h.oT y (mem_del.1 hy).1
  · rw [cnt_ins p (fun y hy => by
      rcases mem_ins_sub hy with rfl | hy
      · simp only; omega
      · exact (off y hy).2), cnt_ins p (fun y hy => (off y hy).1)]
    have h1 := H.one p
    have h2 := inb_halves p a (k - 1) (by omega)
    rw [show k - 1 + 1 = k from by omega] at h2
    simp only at h1
    omega

/-- Nothing taken: no free block is the lower half of what lies within the pages. -/
theorem no_low {N : Int} {F : List Bl} (h : Inv N F []) : ∀ (n : Nat) (a k : Int), k.toNat = n → (a, k) ∈ F → k ≤ 5 → pw (k + 1) ∣ a → a + pw (k + 1) ≤ N → False := by
  intro n
  induction n using Nat.strongRecOn with
  | _ n ih =>
    intro a k hn hx k5 hal hN
    have ho := h.oF _ hx
    unfold Okb at ho
    simp only at ho
    have hp := pw_pos k
    have hs := pw_succ k ho.1
    have hin := h.inF hx
    simp only at hin
    have h1 := h.one (a + pw k)
    rw [ind_one.2 ⟨by omega, by omega⟩] at h1
    simp only [cnt] at h1
    obtain ⟨z, hz, hz1, hz2⟩ := cnt_pos (p := a + pw k) (l := F) (by omega)
    have oz := h.oF z hz
    unfold Okb at oz
    have hzp := pw_pos z.2
    have hb : z.1 = a + pw k := by
      refine Int.le_antisymm hz1 (Int.not_lt.1 fun hlt => ?_)
      have hne : (a, k).1 ≠ z.1 := fun e => by
        have := srt_key h.sF hx hz e
        rw [← this] at hz2; simp only at hz2; omega
      have h2 := cnt_two (p := a + pw k - 1) hx hz hne
      rw [inb_one.2 (by simp only; omega), inb_one.2 (by omega)] at h2
      have h3 := h.one (a + pw k - 1)
      have := ind_le N (a + pw k - 1)
      simp only [cnt] at h3
      omega
    rcases Int.lt_trichotomy z.2 k with hlt | heq | hgt
    · -- smaller: again
      have hd : pw (z.2 + 1) ∣ z.1 := by
        rw [hb]
        exact Int.dvd_add (Int.dvd_trans (pw_dvd (by omega) (by omega)) hal) (pw_dvd (by omega) (by omega))
      have hle : pw (z.2 + 1) ≤ pw k := Int.le_of_dvd hp (pw_dvd (by omega) (by omega))
      exact ih z.2.toNat (by omega) z.1 z.2 rfl hz (by omega) hd (by omega)
    · have := h.nob _ hx (by simp only; omega)
      simp only at this
      rw [bud_low ho.1 hal, ← hb, ← heq] at this
      exact this hz
    · have hd : pw (k + 1) ∣ z.1 := Int.dvd_trans (pw_dvd (by omega) (by omega)) oz.2.2
      rw [hb] at hd
      have := Int.dvd_sub hd hal
      rw [show a + pw k - a = pw k from by omega, hs] at this
      have := Int.le_of_dvd hp this
      omega

/-- The widest order that fits is the greatest. -/
theorem wid_max {a r j : Int} (j0 : 0 ≤ j) (j6 : j ≤ 6) (hd : pw j ∣ a) (hr : pw j ≤ r) : j ≤ wid a r := by
  have hp := pw_pos j
  have hw := wid_facts a r (by omega)
  refine Int.not_lt.1 fun hlt => ?_
  have hc : ∀ i, 0 ≤ i → i ≤ j → Fr.cond a r i = true := fun i h0 hi => by
    have := Int.le_of_dvd hp (pw_dvd h0 hi)
    simp only [Fr.cond, Bool.and_eq_true, decide_eq_true_eq]
    exact ⟨(al_dvd _ _).2 (Int.dvd_trans (pw_dvd h0 hi) hd), by omega⟩
  have hu : ∀ i, 0 ≤ i → i < j → (i = 6 ∨ Fr.cond a r (i + 1) = false) → False := fun i h0 hi h => by
    rcases h with h | h
    · omega
    · rw [hc (i + 1) (by omega) (by omega)] at h; cases h
  -- the chain of tests stops below j
  have c := fun i h0 hi => hc i h0 hi
  unfold wid at hlt
  rcases orders j j0 j6 with rfl | rfl | rfl | rfl | rfl | rfl | rfl
  · have := hw.1; unfold wid at this; omega
  · rw [if_pos (c 1 (by omega) (by omega))] at hlt
    repeat (split at hlt)
    all_goals omega
  · rw [if_pos (c 1 (by omega) (by omega)), if_pos (c 2 (by omega) (by omega))] at hlt
    repeat (split at hlt)
    all_goals omega
  · rw [if_pos (c 1 (by omega) (by omega)), if_pos (c 2 (by omega) (by omega)), if_pos (c 3 (by omega) (by omega))] at hlt
    repeat (split at hlt)
    all_goals omega
  · rw [if_pos (c 1 (by omega) (by omega)), if_pos (c 2 (by omega) (by omega)), if_pos (c 3 (by omega) (by omega)), if_pos (c 4 (by omega) (by omega))] at hlt
    repeat (split at hlt)
    all_goals omega
  · rw [if_pos (c 1 (by omega) (by omega)), if_pos (c 2 (by omega) (by omega)), if_pos (c 3 (by omega) (by omega)), if_pos (c 4 (by omega) (by omega)), if_pos (c 5 (by omega) (by omega))] at hlt
    repeat (split at hlt)
    all_goals omega
  · rw [if_pos (c 1 (by omega) (by omega)), if_pos (c 2 (by omega) (by omega)), if_pos (c 3 (by omega) (by omega)), if_pos (c 4 (by omega) (by omega)), if_pos (c 5 (by omega) (by omega)), if_pos (c 6 (by omega) (by omega))] at hlt
    omega
end Bd
end Go.Proofs.YtdmeoooimnfmaaaGreatDoor
