/- The plain list of blocks that covers pages: the widest order that fits, again and again · The plain arithmetic of buddies: lists of blocks that rise by where they begin; what is put in and taken out; how often a page is in a block. Nothing of a program stands here · Buddies: halving, joining; what was at the beginning is there again when nothing is taken. Plain arithmetic. -/
import Derived.Test.YtcbmfakjfoggaaaGreatDoorG00
namespace Go.Proofs.YtcbmfakjfoggaaaGreatDoor
open Go.RowKit
namespace Fr

/-- May a block of order j begin at a, with r pages left? -/
def cond (a r j : Int) : Bool := al a j && decide (pw j ≤ r)
def wid (a r : Int) : Int :=
  if cond a r 1 then (if cond a r 2 then (if cond a r 3 then (if cond a r 4 then (if cond a r 5 then (if cond a r 6 then 6 else 5) else 4) else 3) else 2) else 1) else 0
/-- All orders from 1 to j may. -/
def upto (a r j : Int) : Prop := ∀ i, 1 ≤ i → i ≤ j → cond a r i = true

theorem upto_zero (a r : Int) : upto a r 0 := fun i h1 h2 => by omega
theorem upto_succ {a r j : Int} (h : upto a r j) (hc : cond a r (j + 1) = true) : upto a r (j + 1) := fun i h1 h2 => by
  by_cases c : i = j + 1
  · rw [c]; exact hc
  · exact h i h1 (by omega)
theorem wid_of {a r j : Int} (h : upto a r j) (h0 : 0 ≤ j) (h6 : j ≤ 6) (he : j = 6 ∨ cond a r (j + 1) = false) : wid a r = j := by
  rcases orders j h0 h6 with rfl | rfl | rfl | rfl | rfl | rfl | rfl
  · have c1 : cond a r 1 = false := by rcases he with h | h; omega; exact h
    simp [wid, c1]
  · have c2 : cond a r 2 = false := by rcases he with h | h; omega; exact h
    simp [wid, h 1 (by omega) (by omega), c2]
  · have c3 : cond a r 3 = false := by rcases he with h | h; omega; exact h
    simp [wid, h 1 (by omega) (by omega), h 2 (by omega) (by omega), c3]
  · have c4 : cond a r 4 = false := by rcases he with h | h; omega; exact h
    simp [wid, h 1 (by omega) (by omega), h 2 (by omega) (by omega), h 3 (by omega) (by omega), c4]
  · have c5 : cond a r 5 = false := by rcases he with h | h; omega; exact h
    simp [wid, h 1 (by omega) (by omega), h 2 (by omega) (by omega), h 3 (by omega) (by omega), h 4 (by omega) (by omega), c5]
  · have c6 : cond a r 6 = false := by rcases he with h | h; omega; exact h
    simp [wid, h 1 (by omega) (by omega), h 2 (by omega) (by omega), h 3 (by omega) (by omega), h 4 (by omega) (by omega), h 5 (by omega) (by omega), c6]
  · simp [wid, h 1 (by omega) (by omega), h 2 (by omega) (by omega), h 3 (by omega) (by omega), h 4 (by omega) (by omega), h 5 (by omega) (by omega), h 6 (by omega) (by omega)]
theorem al_zero (a : Int) : al a 0 = true := by simp [al, pw0]
theorem wid_facts (a r : Int) (hr : 1 ≤ r) : 0 ≤ wid a r ∧ wid a r ≤ 6 ∧ al a (wid a r) = true ∧ pw (wid a r) ≤ r := by
  have hz : 0 ≤ (0 : Int) ∧ (0 : Int) ≤ 6 ∧ al a 0 = true ∧ pw 0 ≤ r := ⟨by omega, by omega, al_zero a, by rw [pw0]; omega⟩
  have hc : ∀ j, 0 ≤ j → j ≤ 6 → cond a r j = true → 0 ≤ j ∧ j ≤ 6 ∧ al a j = true ∧ pw j ≤ r := fun j h0 h6 h => by
    simp [cond] at h; exact ⟨h0, h6, h.1, h.2⟩
  unfold wid
  by_cases c1 : cond a r 1 = true
  · rw [if_pos c1]
    by_cases c2 : cond a r 2 = true
    · rw [if_pos c2]
      by_cases c3 : cond a r 3 = true
      · rw [if_pos c3]
        by_cases c4 : cond a r 4 = true
        · rw [if_pos c4]
          by_cases c5 : cond a r 5 = true
          · rw [if_pos c5]
            by_cases c6 : cond a r 6 = true
            · rw [if_pos c6]; exact hc 6 (by omega) (by omega) c6
            · rw [if_neg c6]; exact hc 5 (by omega) (by omega) c5
          · rw [if_neg c5]; exact hc 4 (by omega) (by omega) c4
        · rw [if_neg c4]; exact hc 3 (by omega) (by omega) c3
      · rw [if_neg c3]; exact hc 2 (by omega) (by omega) c2
    · rw [if_neg c2]; exact hc 1 (by omega) (by omega) c1
  · rw [if_neg c1]; exact hz

/-- The blocks that cover r pages from a on (f: fuel). -/
def cov : Nat → Int → Int → List (Int × Int)
  | 0, _, _ => []
  | f + 1, a, r => if r ≤ 0 then [] else (a, wid a r) :: cov f (a + pw (wid a r)) (r - pw (wid a r))
theorem cov_two : ∀ (f g : Nat) (a r : Int), r.toNat ≤ f → r.toNat ≤ g → cov f a r = cov g a r
  | 0, 0, _, _, _, _ => rfl
  | 0, g + 1, a, r, h, _ => by
    have hr : r ≤ 0 := by omega
    simp [cov, hr]
  | f + 1, 0, a, r, _, h => by
    have hr : r ≤ 0 := by omega
    simp [cov, hr]
  | f + 1, g + 1, a, r, h1, h2 => by
    by_cases hr : r ≤ 0
    · simp [cov, hr]
    · have hw := wid_facts a r (by omega)
      have hp := pw_pos (wid a r)
      simp only [cov, if_neg hr]
      rw [cov_two f g _ _ (by omega) (by omega)]
theorem cov_fuel (f : Nat) (a r : Int) (h : r.toNat ≤ f) : cov f a r = cov r.toNat a r := cov_two _ _ _ _ h (Nat.le_refl _)
/-- The covering of r pages from a on. -/
def cv (a r : Int) : List (Int × Int) := cov r.toNat a r
theorem cv_nil (a r : Int) (h : r ≤ 0) : cv a r = [] := by
  unfold cv; rw [show r.toNat = 0 from by omega]; rfl
theorem cv_cons (a r : Int) (h : 1 ≤ r) : cv a r = (a, wid a r) :: cv (a + pw (wid a r)) (r - pw (wid a r)) := by
  have hp := pw_pos (wid a r)
  unfold cv
  obtain ⟨g, hg⟩ : ∃ g, r.toNat = g + 1 := ⟨r.toNat - 1, by omega⟩
  rw [hg]
  simp only [cov, if_neg (show ¬ r ≤ 0 by omega)]
  rw [cov_fuel g _ _ (by omega)]

/-- The cells of a list of blocks. -/
def flat (l : List (Int × Int)) : List Value := l.flatMap fun x => [.int .i64 x.1, .int .i64 x.2]
theorem flat_snoc (l : List (Int × Int)) (x : Int × Int) : flat (l ++ [x]) = flat l ++ [.int .i64 x.1, .int .i64 x.2] := by simp [flat]
theorem flat_length (l : List (Int × Int)) : (flat l).length = l.length * 2 := by
  induction l with
  | nil => rfl
  | cons x l ih => simp [flat] at ih ⊢; omega
theorem flat_get : ∀ (l : List (Int × Int)) (i : Nat) (h : i < l.length), (flat l)[2 * i]? = some (.int .i64 (l[i]).1) ∧ (flat l)[2 * i + 1]? = some (.int .i64 (l[i]).2)
  | x :: l, 0, _ => by simp [flat]
  | x :: l, i + 1, h => by
    have := flat_get l i (by simpa using h)
    have e1 : 2 * (i + 1) = 2 * i + 2 := by omega
    rw [e1]
    simp only [flat, List.flatMap_cons, List.getElem_cons_succ] at this ⊢
    simpa using this
/-- The number of blocks: no more than the pages. -/
theorem cov_length : ∀ (f : Nat) (a r : Int), (cov f a r).length ≤ f
  | 0, _, _ => by simp [cov]
  | f + 1, a, r => by
    unfold cov
    split
    · simp
    · have := cov_length f (a + pw (wid a r)) (r - pw (wid a r)); simp; omega
theorem cv_length (a r : Int) : (cv a r).length ≤ r.toNat := cov_length _ _ _
end Fr
end Go.Proofs.YtcbmfakjfoggaaaGreatDoor
namespace Go.Proofs.YtcbmfakjfoggaaaGreatDoor
open Go.RowKit
namespace Bd
open Fr

abbrev Bl := Int × Int
/-- Rising by where they begin. -/
def Srt (l : List Bl) : Prop := l.Pairwise (fun x y => x.1 < y.1)
def ins (x : Bl) : List Bl → List Bl
  | [] => [x]
  | y :: l => if x.1 < y.1 then x :: y :: l else if x.1 = y.1 then x :: l else y :: ins x l
def del (a : Int) (l : List Bl) : List Bl := l.filter (fun y => y.1 != a)
/-- Is a page in a block? -/
def inb (p : Int) (x : Bl) : Nat := if x.1 ≤ p ∧ p < x.1 + pw x.2 then 1 else 0
def cnt (p : Int) : List Bl → Nat
  | [] => 0
  | x :: l => inb p x + cnt p l
/-- A right block: its order, and where it begins. -/
def Okb (x : Bl) : Prop := 0 ≤ x.2 ∧ x.2 ≤ 6 ∧ pw x.2 ∣ x.1
def ind (N p : Int) : Nat := if 0 ≤ p ∧ p < N then 1 else 0

theorem pw_succ (k : Int) (h : 0 ≤ k) : pw (k + 1) = 2 * pw k := by
  unfold pw
  rw [show (k + 1).toNat = k.toNat + 1 from by omega, Int.pow_succ]; omega
theorem pw_dvd {i j : Int} (_h0 : 0 ≤ i) (h : i ≤ j) : pw i ∣ pw j := by
  unfold pw
  obtain ⟨n, hn⟩ : ∃ n : Nat, j.toNat = i.toNat + n := ⟨j.toNat - i.toNat, by omega⟩
  rw [hn, Int.pow_add]
  exact Int.dvd_mul_right _ _
theorem al_dvd (a k : Int) : al a k = true ↔ pw k ∣ a := by
  rw [al_iff]
  have := pw_pos k
  constructor
  · intro h; exact ⟨a / pw k, by rw [Int.mul_comm]; exact h.symm⟩
  · intro h; exact Int.ediv_mul_cancel h
theorem srt_nil : Srt [] := List.Pairwise.nil
theorem srt_cons {x : Bl} {l : List Bl} : Srt (x :: l) ↔ (∀ y ∈ l, x.1 < y.1) ∧ Srt l := List.pairwise_cons
theorem mem_ins_sub {x : Bl} {l : List Bl} {y : Bl} (h : y ∈ ins x l) : y = x ∨ y ∈ l := by
  induction l with
  | nil => simp [ins] at h; exact Or.inl h
  | cons z l ih =>
    unfold ins at h
    split at h
    · rcases List.mem_cons.1 h with h | h
      · exact Or.inl h
      · exact Or.inr h
    · split at h
      · rcases List.mem_cons.1 h with h | h
        · exact Or.inl h
        · exact Or.inr (List.mem_cons_of_mem _ h)
      · rcases List.mem_cons.1 h with h | h
        · exact Or.inr (by rw [h]; exact List.mem_cons_self ..)
        · rcases ih h with h | h
          · exact Or.inl h
          · exact Or.inr (List.mem_cons_of_mem _ h)
theorem mem_ins_self (x : Bl) (l : List Bl) : x ∈ ins x l := by
  induction l with
  | nil => simp [ins]
  | cons z l ih => unfold ins; split; · simp
                   · split <;> simp [ih]
theorem mem_ins_other {x y : Bl} {l : List Bl} (h : y ∈ l) (hne : y.1 ≠ x.1) : y ∈ ins x l := by
  induction l with
  | nil => cases h
  | cons z l ih =>
    unfold ins
    split
    · exact List.mem_cons_of_mem _ h
    · split
      · rcases List.mem_cons.1 h with rfl | h
        · omega
        · exact List.mem_cons_of_mem _ h
      · rcases List.mem_cons.1 h with rfl | h
        · exact List.mem_cons_self ..
        · exact List.mem_cons_of_mem _ (ih h)
theorem srt_ins {x : Bl} {l : List Bl} (h : Srt l) : Srt (ins x l) := by
  induction l with
  | nil => simp [ins, Srt]
  | cons z l ih =>
    rw [srt_cons] at h
    unfold ins
    split
    · rw [srt_cons]
      refine ⟨fun y hy => ?_, srt_cons.2 h⟩
      rcases List.mem_cons.1 hy with rfl | hy
      · assumption
      · have := h.1 y hy; omega
    · split
      · rw [srt_cons]
        exact ⟨fun y hy => by have := h.1 y hy; omega, h.2⟩
      · rw [srt_cons]
        refine ⟨fun y hy => ?_, ih h.2⟩
        rcases mem_ins_sub hy with rfl | hy
        · omega
        · exact h.1 y hy
theorem srt_del {a : Int} {l : List Bl} (h : Srt l) : Srt (del a l) := h.filter _
theorem mem_del {a : Int} {l : List Bl} {y : Bl} : y ∈ del a l ↔ y ∈ l ∧ y.1 ≠ a := by simp [del]
/-- Keys within bounds: no more blocks than keys. -/
theorem srt_len : ∀ {l : List Bl} {a b : Int}, Srt l → (∀ x ∈ l, a ≤ x.1 ∧ x.1 < b) → l.length ≤ (b - a).toNat
  | [], _, _, _, _ => by simp
  | x :: l, a, b, h, hb => by
    rw [srt_cons] at h
    have h1 := hb x (List.mem_cons_self ..)
    have := srt_len (l := l) (a := x.1 + 1) (b := b) h.2 (fun y hy => ⟨by have := h.1 y hy; omega, (hb y (List.mem_cons_of_mem _ hy)).2⟩)
    simp; omega

theorem inb_le (p : Int) (x : Bl) : inb p x ≤ 1 := by unfold inb; split <;> omega
theorem inb_at (x : Bl) : inb x.1 x = 1 := by unfold inb; have := pw_pos x.2; rw [if_pos (by omega)]
theorem inb_one {p : Int} {x : Bl} : inb p x = 1 ↔ x.1 ≤ p ∧ p < x.1 + pw x.2 := by unfold inb; split <;> simp_all
theorem cnt_mem {p : Int} {l : List Bl} {x : Bl} (h : x ∈ l) : inb p x ≤ cnt p l := by
  induction l with
  | nil => cases h
  | cons y l ih =>
    rcases List.mem_cons.1 h with rfl | h
    · simp [cnt]
    · have := ih h; simp [cnt]; omega
theorem cnt_ins (p : Int) {x : Bl} {l : List Bl} (h : ∀ y ∈ l, y.1 ≠ x.1) : cnt p (ins x l) = inb p x + cnt p l := by
  induction l with
  | nil => simp [ins, cnt]
  | cons y l ih =>
    have h1 := h y (List.mem_cons_self ..)
    unfold ins
    split
    · simp [cnt]
    · split
      · omega
      · have := ih (fun z hz => h z (List.mem_cons_of_mem _ hz)); simp [cnt]; omega
theorem del_none {a : Int} {l : List Bl} (h : ∀ y ∈ l, y.1 ≠ a) : del a l = l := by
  unfold del; rw [List.filter_eq_self]; intro y hy; simpa using h y hy
theorem cnt_del (p : Int) {x : Bl} {l : List Bl} (hs : Srt l) (h : x ∈ l) : cnt p (del x.1 l) + inb p x = cnt p l := by
  induction l with
  | nil => cases h
  | cons y l ih =>
    rw [srt_cons] at hs
    rcases List.mem_cons.1 h with h1 | h
    · subst h1
      have e : del x.1 (x :: l) = l := by
        show List.filter _ (x :: l) = l
        rw [List.filter_cons]
        simp only [bne_self_eq_false, Bool.false_eq_true, if_false]
        exact del_none (a := x.1) (fun y hy => by have := hs.1 y hy; omega)
      rw [e]; simp [cnt]; omega
    · have := hs.1 x h
      have e : del x.1 (y :: l) = y :: del x.1 l := by
        show List.filter _ (y :: l) = y :: List.filter _ l
        rw [List.filter_cons, if_pos (by simp only [bne_iff_ne, ne_eq]; omega)]
      rw [e]; have := ih hs.2 h; simp [cnt]; omega

/-- Blocks free and taken, and one that is with neither ('hole'): each page is in one. -/
structure HInv (N : Int) (F T : List Bl) (x : Bl) : Prop where
  sF : Srt F
  sT : Srt T
  oF : ∀ y ∈ F, Okb y
  oT : ∀ y ∈ T, Okb y
  ox : Okb x
  one : ∀ p, cnt p F + cnt p T + inb p x = ind N p
  nob : ∀ y ∈ F, y.2 < 6 → (bud y.1 y.2, y.2) ∉ F
structure Inv (N : Int) (F T : List Bl) : Prop where
  sF : Srt F
  sT : Srt T
  oF : ∀ y ∈ F, Okb y
  oT : ∀ y ∈ T, Okb y
  one : ∀ p, cnt p F + cnt p T = ind N p
  nob : ∀ y ∈ F, y.2 < 6 → (bud y.1 y.2, y.2) ∉ F

theorem ind_le (N p : Int) : ind N p ≤ 1 := by unfold ind; split <;> omega
theorem ind_one {N p : Int} : ind N p = 1 ↔ 0 ≤ p ∧ p < N := by unfold ind; split <;> simp_all

/-- Within the pages. -/
theorem in_pages {N : Int} {x : Bl} (h : ∀ p, inb p x ≤ ind N p) : 0 ≤ x.1 ∧ x.1 + pw x.2 ≤ N := by
  have h1 := h x.1
  rw [inb_at] at h1
  have h2 := h (x.1 + pw x.2 - 1)
  have hp := pw_pos x.2
  rw [inb_one.2 ⟨by omega, by omega⟩] at h2
  have q1 := ind_one.1 (Nat.le_antisymm (ind_le N x.1) h1)
  have q2 := ind_one.1 (Nat.le_antisymm (ind_le N _) h2)
  exact ⟨q1.1, by omega⟩
theorem Inv.inF {N : Int} {F T : List Bl} (h : Inv N F T) {x : Bl} (hx : x ∈ F) : 0 ≤ x.1 ∧ x.1 + pw x.2 ≤ N :=
  in_pages fun p => by have := cnt_mem (p := p) hx; have := h.one p; omega
theorem Inv.inT {N : Int} {F T : List Bl} (h : Inv N F T) {x : Bl} (hx : x ∈ T) : 0 ≤ x.1 ∧ x.1 + pw x.2 ≤ N :=
  in_pages fun p => by have := cnt_mem (p := p) hx; have := h.one p; omega
theorem HInv.inF {N : Int} {F T : List Bl} {z : Bl} (h : HInv N F T z) {x : Bl} (hx : x ∈ F) : 0 ≤ x.1 ∧ x.1 + pw x.2 ≤ N :=
  in_pages fun p => by have := cnt_mem (p := p) hx; have := h.one p; omega
theorem HInv.inX {N : Int} {F T : List Bl} {z : Bl} (h : HInv N F T z) : 0 ≤ z.1 ∧ z.1 + pw z.2 ≤ N :=
  in_pages fun p => by have := h.one p; omega
/-- Nothing free, nothing taken begins within the hole. -/
theorem HInv.offF {N : Int} {F T : List Bl} {z : Bl} (h : HInv N F T z) {y : Bl} (hy : y ∈ F) : ¬ (z.1 ≤ y.1 ∧ y.1 < z.1 + pw z.2) := fun c => by
  have h1 := cnt_mem (p := y.1) hy
  rw [inb_at] at h1
  have h2 := h.one y.1
  rw [inb_one.2 c] at h2
  have := ind_le N y.1
  omega
theorem HInv.offT {N : Int} {F T : List Bl} {z : Bl} (h : HInv N F T z) {y : Bl} (hy : y ∈ T) : ¬ (z.1 ≤ y.1 ∧ y.1 < z.1 + pw z.2) := fun c => by
  have h1 := cnt_mem (p := y.1) hy
  rw [inb_at] at h1
  have h2 := h.one y.1
  rw [inb_one.2 c] at h2
  have := ind_le N y.1
  omega

/-- A free block is taken out. -/
theorem Inv.outF {N : Int} {F T : List Bl} (h : Inv N F T) {x : Bl} (hx : x ∈ F) : HInv N (del x.1 F) T x :=
  ⟨srt_del h.sF, h.sT, fun y hy => h.oF y (mem_del.1 hy).1, h.oT, h.oF x hx, fun p => by have := cnt_del p h.sF hx; have := h.one p; omega,
   fun y hy h6 hb => h.nob y (mem_del.1 hy).1 h6 (mem_del.1 hb).1⟩
/-- The hole is taken. -/
theorem HInv.inTaken {N : Int} {F T : List Bl} {x : Bl} (h : HInv N F T x) : Inv N F (ins x T) :=
  ⟨h.sF, srt_ins h.sT, h.oF, fun y hy => by rcases mem_ins_sub hy with rfl | hy; exact h.ox; exact h.oT y hy,
   fun p => by rw [cnt_ins p (fun y hy => fun e => h.offT hy (by rw [e]; have := pw_pos x.2; omega))]; have := h.one p; omega, h.nob⟩
end Bd
end Go.Proofs.YtcbmfakjfoggaaaGreatDoor
namespace Go.Proofs.YtcbmfakjfoggaaaGreatDoor
open Go.RowKit
namespace Bd
open Fr

/-- The lower half of an aligned block, its upper one: halves, and each other's buddies. -/
theorem half_dvd {a k : Int} (k1 : 1 ≤ k) (h : pw k ∣ a) : pw (k - 1) ∣ a ∧ pw (k - 1) ∣ a + pw (k - 1) ∧ pw k = 2 * pw (k - 1) := by
  have h1 : pw (k - 1) ∣ a := Int.dvd_trans (pw_dvd (by omega) (by omega)) h
  have h2 := pw_succ (k - 1) (by omega)
  rw [show k - 1 + 1 = k from by omega] at h2
  exact ⟨h1, Int.dvd_add h1 (Int.dvd_refl _), h2⟩
theorem div_even {a k : Int} (k0 : 0 ≤ k) (h : pw (k + 1) ∣ a) : a / pw k % 2 = 0 := by
  obtain ⟨c, rfl⟩ := h
  have hp := pw_pos k
  rw [pw_succ k k0, show 2 * pw k * c = pw k * (2 * c) from by rw [Int.mul_comm 2 (pw k), Int.mul_assoc], Int.mul_ediv_cancel_left _ (by omega)]
  omega
theorem bud_low {a k : Int} (k0 : 0 ≤ k) (h : pw (k + 1) ∣ a) : bud a k = a + pw k := by
  unfold bud; rw [if_pos (div_even k0 h)]
theorem bud_high {a k : Int} (k0 : 0 ≤ k) (h : pw (k + 1) ∣ a) : bud (a + pw k) k = a := by
  have hp := pw_pos k
  unfold bud
  have e : (a + pw k) / pw k = a / pw k + 1 := Int.add_ediv_of_dvd_right (Int.dvd_refl _) |>.trans (by rw [Int.ediv_self (by omega)])
  have := div_even k0 h
  rw [if_neg (by rw [e]; omega)]; omega
/-- An aligned block is the lower or the upper half of its parent. -/
theorem low_or_high {a k : Int} (k0 : 0 ≤ k) (h : pw k ∣ a) : pw (k + 1) ∣ a ∨ pw (k + 1) ∣ a - pw k := by
  obtain ⟨c, rfl⟩ := h
  rw [pw_succ k k0]
  rcases (by omega : c % 2 = 0 ∨ c % 2 = 1) with e | e
  · left
    obtain ⟨d, rfl⟩ : ∃ d, c = 2 * d := ⟨c / 2, by omega⟩
    exact ⟨d, by rw [Int.mul_comm 2 (pw k), Int.mul_assoc]⟩
  · right
    obtain ⟨d, rfl⟩ : ∃ d, c = 2 * d + 1 := ⟨c / 2, by omega⟩
    exact ⟨d, by rw [Int.mul_add, Int.mul_comm 2 (pw k), Int.mul_assoc]; omega⟩
theorem inb_halves (p a k : Int) (h : 0 ≤ k) : inb p (a, k + 1) = inb p (a, k) + inb p (a + pw k, k) := by
  have := pw_succ k h
  have := pw_pos k
  unfold inb
  simp only
  by_cases c1 : a ≤ p ∧ p < a + pw (k + 1)
  · rw [if_pos c1]
    by_cases c2 : p < a + pw k
    · rw [if_pos ⟨c1.1, c2⟩, if_neg (by omega)]
    · rw [if_neg (by omega), if_pos (by omega)]
  · rw [if_neg c1, if_neg (by omega), if_neg (by omega)]

/-- The hole is halved: the upper half is free. -/
theorem HInv.halve {N : Int} {F T : List Bl} {a k : Int} (h : HInv N F T (a, k)) (k1 : 1 ≤ k) : HInv N (ins (a + pw (k - 1), k - 1) F) T (a, k - 1) := by
  obtain ⟨hd1, hd2, hd3⟩ := half_dvd k1 h.ox.2.2
  have hp := pw_pos (k - 1)
  have hal : pw (k - 1 + 1) ∣ a := by rw [show k - 1 + 1 = k from by omega]; exact h.ox.2.2
  have ho := h.ox
  unfold Okb at ho
  simp only at ho hd1 hd2 hd3
  have off : ∀ y ∈ F, y.1 ≠ a ∧ y.1 ≠ a + pw (k - 1) := fun y hy => by
    have := h.offF hy; simp only at this; constructor <;> omega
  refine ⟨srt_ins h.sF, h.sT, fun y hy => ?_, h.oT, ⟨by simp only; omega, by simp only; omega, hd1⟩, fun p => ?_, fun y hy h6 hb => ?_⟩
  · rcases mem_ins_sub hy with rfl | hy
    · exact ⟨by simp only; omega, by simp only; omega, hd2⟩
    · exact h.oF y hy
  · rw [cnt_ins p (fun y hy => (off y hy).2)]
    have h1 := h.one p
    have h2 := inb_halves p a (k - 1) (by omega)
    rw [show k - 1 + 1 = k from by omega] at h2
    omega
  · rcases mem_ins_sub hy with rfl | hy
    · simp only at hb
      rw [bud_high (by omega) hal] at hb
      rcases mem_ins_sub hb with e | hb
      · have := congrArg Prod.fst e; simp only at this; omega
      · exact (off _ hb).1 rfl
    · rcases mem_ins_sub hb with e | hb
      · have e1 := congrArg Prod.fst e
        have e2 := congrArg Prod.snd e
        simp only at e1 e2
        -- y is the low half
        have : y.1 = a := by
          have ey := h.oF y hy
          unfold Okb at ey
          rcases low_or_high (k := y.2) (by omega) ey.2.2 with c | c
          · rw [bud_low (by omega) c] at e1
            rw [e2] at e1; omega
          · have := bud_high (a := y.1 - pw y.2) (by omega) c
            rw [show y.1 - pw y.2 + pw y.2 = y.1 from by omega] at this
            rw [this] at e1
            rw [e2] at e1 c
            -- y.1 = a + 2 * pw (k-1), and its lower half begins at a + pw (k-1)
            exfalso
            rw [e1] at c
            have c2 := Int.dvd_sub c hal
            rw [show a + pw (k - 1) - a = pw (k - 1) from by omega, pw_succ (k - 1) (by omega)] at c2
            have := Int.le_of_dvd (by omega) c2
            omega
        exact (off y hy).1 this
      · exact h.nob y hy h6 hb

/-- The widest order that fits is the greatest. -/
theorem wid_max {a r j : Int} (j0 : 0 ≤ j) (j6 : j ≤ 6) (hd : pw j ∣ a) (hr : pw j ≤ r) : j ≤ wid a r := by
  have hp := pw_pos j
  have hw := wid_facts a r (by omega)
  refine Int.not_lt.1 fun hlt => ?_
  have hc : ∀ i, 0 ≤ i → i ≤ j → Fr.cond a r i = true := fun i h0 hi => by
    have := Int.le_of_dvd hp (pw_dvd h0 hi)
    simp only [Fr.cond, Bool.and_eq_true, decide_eq_true_eq]
    exact ⟨(al_dvd _ _).2 (Int.dvd_trans (pw_dvd h0 hi) hd), by omega⟩
  have hu : ∀ i, 0 ≤ i → i < j → (i = 6 ∨ Fr.cond a r (i + 1) = false) → False := fun i h0 hi h => by
    rcases h with h | h
    · omega
    · rw [hc (i + 1) (by omega) (by omega)] at h; cases h
  -- the chain of tests stops below j
  have c := fun i h0 hi => hc i h0 hi
  unfold wid at hlt
  rcases orders j j0 j6 with rfl | rfl | rfl | rfl | rfl | rfl | rfl
  · have := hw.1; unfold wid at this; omega
  · rw [if_pos (c 1 (by omega) (by omega))] at hlt
    repeat (split at hlt)
    all_goals omega
  · rw [if_pos (c 1 (by omega) (by omega)), if_pos (c 2 (by omega) (by omega))] at hlt
    repeat (split at hlt)
    all_goals omega
  · rw [if_pos (c 1 (by omega) (by omega)), if_pos (c 2 (by omega) (by omega)), if_pos (c 3 (by omega) (by omega))] at hlt
    repeat (split at hlt)
    all_goals omega
  · rw [if_pos (c 1 (by omega) (by omega)), if_pos (c 2 (by omega) (by omega)), if_pos (c 3 (by omega) (by omega)), if_pos (c 4 (by omega) (by omega))] at hlt
    repeat (split at hlt)
    all_goals omega
  · rw [if_pos (c 1 (by omega) (by omega)), if_pos (c 2 (by omega) (by omega)), if_pos (c 3 (by omega) (by omega)), if_pos (c 4 (by omega) (by omega)), if_pos (c 5 (by omega) (by omega))] at hlt
    repeat (split at hlt)
    all_goals omega
  · rw [if_pos (c 1 (by omega) (by omega)), if_pos (c 2 (by omega) (by omega)), if_pos (c 3 (by omega) (by omega)), if_pos (c 4 (by omega) (by omega)), if_pos (c 5 (by omega) (by omega)), if_pos (c 6 (by omega) (by omega))] at hlt
    omega
end Bd
end Go.Proofs.YtcbmfakjfoggaaaGreatDoor
