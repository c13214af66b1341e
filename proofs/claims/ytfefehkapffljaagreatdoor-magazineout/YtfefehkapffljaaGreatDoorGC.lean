/- The plain list of blocks that covers pages: the widest order that fits, again and again · The plain arithmetic of buddies: lists of blocks that rise by where they begin; what is put in and taken out; how often a page is in a block. Nothing of a program stands here · Buddies: halving, joining; what was at the beginning is there again when nothing is taken. Plain arithmetic · What is free at the beginning, and again when nothing is taken: the cover. Plain arithmetic · A list of blocks that lies in a slice. -/
import Derived.Test.YtfefehkapffljaaGreatDoorGA
import Derived.WalkKit
import Derived.OwnWalk
namespace Go.Proofs.YtfefehkapffljaaGreatDoor
open Go.RowKit
namespace Fr

/-- May a block of order j begin at a, with r pages left? -/
def cond (a r j : Int) : Bool := al a j && decide (pw j ≤ r)
def wid (a r : Int) : Int :=
  if cond a r 1 then (if cond a r 2 then (if cond a r 3 then (if cond a r 4 then (if cond a r 5 then (if cond a r 6 then 6 else 5) else 4) else 3) else 2) else 1) else 0
/-- All orders from 1 to j may. -/
def upto (a r j : Int) : Prop := ∀ i, 1 ≤ i → i ≤ j → cond a r i = true

theorem upto_zero (a r : Int) : upto a r 0 := fun i h1 h2 => by omega
theorem upto_succ {a r j : Int} (h : upto a r j) (hc : cond a r (j + 1) = true) : upto a r (j + 1) := fun i h1 h2 => by
  by_cases c : i = j + 1
  · rw [c]; exact hc
  · exact h i h1 (by omega)
theorem wid_of {a r j : Int} (h : upto a r j) (h0 : 0 ≤ j) (h6 : j ≤ 6) (he : j = 6 ∨ cond a r (j + 1) = false) : wid a r = j := by
  rcases orders j h0 h6 with rfl | rfl | rfl | rfl | rfl | rfl | rfl
  · have c1 : cond a r 1 = false := by rcases he with h | h; omega; exact h
    simp [wid, c1]
  · have c2 : cond a r 2 = false := by rcases he with h | h; omega; exact h
    simp [wid, h 1 (by omega) (by omega), c2]
  · have c3 : cond a r 3 = false := by rcases he with h | h; omega; exact h
    simp [wid, h 1 (by omega) (by omega), h 2 (by omega) (by omega), c3]
  · have c4 : cond a r 4 = false := by rcases he with h | h; omega; exact h
    simp [wid, h 1 (by omega) (by omega), h 2 (by omega) (by omega), h 3 (by omega) (by omega), c4]
  · have c5 : cond a r 5 = false := by rcases he with h | h; omega; exact h
    simp [wid, h 1 (by omega) (by omega), h 2 (by omega) (by omega), h 3 (by omega) (by omega), h 4 (by omega) (by omega), c5]
  · have c6 : cond a r 6 = false := by rcases he with h | h; omega; exact h
    simp [wid, h 1 (by omega) (by omega), h 2 (by omega) (by omega), h 3 (by omega) (by omega), h 4 (by omega) (by omega), h 5 (by omega) (by omega), c6]
  · simp [wid, h 1 (by omega) (by omega), h 2 (by omega) (by omega), h 3 (by omega) (by omega), h 4 (by omega) (by omega), h 5 (by omega) (by omega), h 6 (by omega) (by omega)]
theorem al_zero (a : Int) : al a 0 = true := by simp [al, pw0]
theorem wid_facts (a r : Int) (hr : 1 ≤ r) : 0 ≤ wid a r ∧ wid a r ≤ 6 ∧ al a (wid a r) = true ∧ pw (wid a r) ≤ r := by
  have hz : 0 ≤ (0 : Int) ∧ (0 : Int) ≤ 6 ∧ al a 0 = true ∧ pw 0 ≤ r := ⟨by omega, by omega, al_zero a, by rw [pw0]; omega⟩
  have hc : ∀ j, 0 ≤ j → j ≤ 6 → cond a r j = true → 0 ≤ j ∧ j ≤ 6 ∧ al a j = true ∧ pw j ≤ r := fun j h0 h6 h => by
    simp [cond] at h; exact ⟨h0, h6, h.1, h.2⟩
  unfold wid
  by_cases c1 : cond a r 1 = true
  · rw [if_pos c1]
    by_cases c2 : cond a r 2 = true
    · rw [if_pos c2]
      by_cases c3 : cond a r 3 = true
      · rw [if_pos c3]
        by_cases c4 : cond a r 4 = true
        · rw [if_pos c4]
          by_cases c5 : cond a r 5 = true
          · rw [if_pos c5]
            by_cases c6 : cond a r 6 = true
            · rw [if_pos c6]; exact hc 6 (by omega) (by omega) c6
            · rw [if_neg c6]; exact hc 5 (by omega) (by omega) c5
          · rw [if_neg c5]; exact hc 4 (by omega) (by omega) c4
        · rw [if_neg c4]; exact hc 3 (by omega) (by omega) c3
      · rw [if_neg c3]; exact hc 2 (by omega) (by omega) c2
    · rw [if_neg c2]; exact hc 1 (by omega) (by omega) c1
  · rw [if_neg c1]; exact hz

/-- The blocks that cover r pages from a on (f: fuel). -/
def cov : Nat → Int → Int → List (Int × Int)
  | 0, _, _ => []
  | f + 1, a, r => if r ≤ 0 then [] else (a, wid a r) :: cov f (a + pw (wid a r)) (r - pw (wid a r))
theorem cov_two : ∀ (f g : Nat) (a r : Int), r.toNat ≤ f → r.toNat ≤ g → cov f a r = cov g a r
  | 0, 0, _, _, _, _ => rfl
  | 0, g + 1, a, r, h, _ => by
    have hr : r ≤ 0 := by omega
    simp [cov, hr]
  | f + 1, 0, a, r, _, h => by
    have hr : r ≤ 0 := by omega
    simp [cov, hr]
  | f + 1, g + 1, a, r, h1, h2 => by
    by_cases hr : r ≤ 0
    · simp [cov, hr]
    · have hw := wid_facts a r (by omega)
      have hp := pw_pos (wid a r)
      simp only [cov, if_neg hr]
      rw [cov_two f g _ _ (by omega) (by omega)]
theorem cov_fuel (f : Nat) (a r : Int) (h : r.toNat ≤ f) : cov f a r = cov r.toNat a r := cov_two _ _ _ _ h (Nat.le_refl _)
/-- The covering of r pages from a on. -/
def cv (a r : Int) : List (Int × Int) := cov r.toNat a r
theorem cv_nil (a r : Int) (h : r ≤ 0) : cv a r = [] := by
  unfold cv; rw [show r.toNat = 0 from by omega]; rfl
theorem cv_cons (a r : Int) (h : 1 ≤ r) : cv a r = (a, wid a r) :: cv (a + pw (wid a r)) (r - pw (wid a r)) := by
  have hp := pw_pos (wid a r)
  unfold cv
  obtain ⟨g, hg⟩ : ∃ g, r.toNat = g + 1 := ⟨r.toNat - 1, by omega⟩
  rw [hg]
  simp only [cov, if_neg (show ¬ r ≤ 0 by omega)]
  rw [cov_fuel g _ _ (by omega)]

/-- The cells of a list of blocks. -/
def flat (l : List (Int × Int)) : List Value := l.flatMap fun x => [.int .i64 x.1, .int .i64 x.2]
theorem flat_snoc (l : List (Int × Int)) (x : Int × Int) : flat (l ++ [x]) = flat l ++ [.int .i64 x.1, .int .i64 x.2] := by simp [flat]
theorem flat_length (l : List (Int × Int)) : (flat l).length = l.length * 2 := by
  induction l with
  | nil => rfl
  | cons x l ih => simp [flat] at ih ⊢; omega
theorem flat_get : ∀ (l : List (Int × Int)) (i : Nat) (h : i < l.length), (flat l)[2 * i]? = some (.int .i64 (l[i]).1) ∧ (flat l)[2 * i + 1]? = some (.int .i64 (l[i]).2)
  | x :: l, 0, _ => by simp [flat]
  | x :: l, i + 1, h => by
    have := flat_get l i (by simpa using h)
    have e1 : 2 * (i + 1) = 2 * i + 2 := by omega
    rw [e1]
    simp only [flat, List.flatMap_cons, List.getElem_cons_succ] at this ⊢
    simpa using this
/-- The number of blocks: no more than the pages. -/
theorem cov_length : ∀ (f : Nat) (a r : Int), (cov f a r).length ≤ f
  | 0, _, _ => by simp [cov]
  | f + 1, a, r => by
    unfold cov
    split
    · simp
    · have := cov_length f (a + pw (wid a r)) (r - pw (wid a r)); simp; omega
theorem cv_length (a r : Int) : (cv a r).length ≤ r.toNat := cov_length _ _ _
end Fr
end Go.Proofs.YtfefehkapffljaaGreatDoor
namespace Go.Proofs.YtfefehkapffljaaGreatDoor
open Go.RowKit
namespace Bd
open Fr

abbrev Bl := Int × Int
/-- Rising by where they begin. -/
def Srt (l : List Bl) : Prop := l.Pairwise (fun x y => x.1 < y.1)
def ins (x : Bl) : List Bl → List Bl
  | [] => [x]
  | y :: l => if x.1 < y.1 then x :: y :: l else if x.1 = y.1 then x :: l else y :: ins x l
def del (a : Int) (l : List Bl) : List Bl := l.filter (fun y => y.1 != a)
/-- Is a page in a block? -/
def inb (p : Int) (x : Bl) : Nat := if x.1 ≤ p ∧ p < x.1 + pw x.2 then 1 else 0
def cnt (p : Int) : List Bl → Nat
  | [] => 0
  | x :: l => inb p x + cnt p l
/-- A right block: its order, and where it begins. -/
def Okb (x : Bl) : Prop := 0 ≤ x.2 ∧ x.2 ≤ 6 ∧ pw x.2 ∣ x.1
def ind (N p : Int) : Nat := if 0 ≤ p ∧ p < N then 1 else 0

theorem pw_succ (k : Int) (h : 0 ≤ k) : pw (k + 1) = 2 * pw k := by
  unfold pw
  rw [show (k + 1).toNat = k.toNat + 1 from by omega, Int.pow_succ]; omega
theorem pw_dvd {i j : Int} (_h0 : 0 ≤ i) (h : i ≤ j) : pw i ∣ pw j := by
  unfold pw
  obtain ⟨n, hn⟩ : ∃ n : Nat, j.toNat = i.toNat + n := ⟨j.toNat - i.toNat, by omega⟩
  rw [hn, Int.pow_add]
  exact Int.dvd_mul_right _ _
theorem al_dvd (a k : Int) : al a k = true ↔ pw k ∣ a := by
  rw [al_iff]
  have := pw_pos k
  constructor
  · intro h; exact ⟨a / pw k, by rw [Int.mul_comm]; exact h.symm⟩
  · intro h; exact Int.ediv_mul_cancel h
theorem pw_one (k : Int) : 1 ≤ pw k := pw_pos k

theorem srt_nil : Srt [] := List.Pairwise.nil
theorem srt_cons {x : Bl} {l : List Bl} : Srt (x :: l) ↔ (∀ y ∈ l, x.1 < y.1) ∧ Srt l := List.pairwise_cons
theorem srt_key {l : List Bl} (h : Srt l) : ∀ {x y : Bl}, x ∈ l → y ∈ l → x.1 = y.1 → x = y := by
  induction l with
  | nil => intro x y hx; cases hx
  | cons z l ih =>
    intro x y hx hy e
    rw [srt_cons] at h
    rcases List.mem_cons.1 hx with h1 | h1 <;> rcases List.mem_cons.1 hy with h2 | h2
    · rw [h1, h2]
    · have := h.1 y h2; rw [h1] at e; omega
    · have := h.1 x h1; rw [h2] at e; omega
    · exact ih h.2 h1 h2 e
theorem mem_ins_sub {x : Bl} {l : List Bl} {y : Bl} (h : y ∈ ins x l) : y = x ∨ y ∈ l := by
  induction l with
  | nil => simp [ins] at h; exact Or.inl h
  | cons z l ih =>
    unfold ins at h
    split at h
    · rcases List.mem_cons.1 h with h | h
      · exact Or.inl h
      · exact Or.inr h
    · split at h
      · rcases List.mem_cons.1 h with h | h
        · exact Or.inl h
        · exact Or.inr (List.mem_cons_of_mem _ h)
      · rcases List.mem_cons.1 h with h | h
        · exact Or.inr (by rw [h]; exact List.mem_cons_self ..)
        · rcases ih h with h | h
          · exact Or.inl h
          · exact Or.inr (List.mem_cons_of_mem _ h)
theorem mem_ins_self (x : Bl) (l : List Bl) : x ∈ ins x l := by
  induction l with
  | nil => simp [ins]
  | cons z l ih => unfold ins; split; · simp
                   · split <;> simp [ih]
theorem mem_ins_other {x y : Bl} {l : List Bl} (h : y ∈ l) (hne : y.1 ≠ x.1) : y ∈ ins x l := by
  induction l with
  | nil => cases h
  | cons z l ih =>
    unfold ins
    split
    · exact List.mem_cons_of_mem _ h
    · split
      · rcases List.mem_cons.1 h with rfl | h
        · omega
        · exact List.mem_cons_of_mem _ h
      · rcases List.mem_cons.1 h with rfl | h
        · exact List.mem_cons_self ..
        · exact List.mem_cons_of_mem _ (ih h)
theorem srt_ins {x : Bl} {l : List Bl} (h : Srt l) : Srt (ins x l) := by
  induction l with
  | nil => simp [ins, Srt]
  | cons z l ih =>
    rw [srt_cons] at h
    unfold ins
    split
    · rw [srt_cons]
      refine ⟨fun y hy => ?_, srt_cons.2 h⟩
      rcases List.mem_cons.1 hy with rfl | hy
      · assumption
      · have := h.1 y hy; omega
    · split
      · rw [srt_cons]
        exact ⟨fun y hy => by have := h.1 y hy; omega, h.2⟩
      · rw [srt_cons]
        refine ⟨fun y hy => ?_, ih h.2⟩
        rcases mem_ins_sub hy with rfl | hy
        · omega
        · exact h.1 y hy
theorem srt_del {a : Int} {l : List Bl} (h : Srt l) : Srt (del a l) := h.filter _
theorem mem_del {a : Int} {l : List Bl} {y : Bl} : y ∈ del a l ↔ y ∈ l ∧ y.1 ≠ a := by simp [del]
theorem mem_ins {x y : Bl} {l : List Bl} (h : Srt l) : y ∈ ins x l ↔ y = x ∨ (y ∈ l ∧ y.1 ≠ x.1) := by
  constructor
  · intro hy
    by_cases e : y.1 = x.1
    · exact Or.inl (srt_key (srt_ins h) hy (mem_ins_self x l) e)
    · rcases mem_ins_sub hy with h | h
      · exact Or.inl h
      · exact Or.inr ⟨h, e⟩
  · rintro (rfl | ⟨hy, e⟩)
    · exact mem_ins_self _ _
    · exact mem_ins_other hy e
/-- Two rising lists with the same blocks are one. -/
theorem srt_ext : ∀ {l m : List Bl}, Srt l → Srt m → (∀ x, x ∈ l ↔ x ∈ m) → l = m
  | [], [], _, _, _ => rfl
  | [], y :: m, _, _, h => absurd ((h y).2 (List.mem_cons_self ..)) (by simp)
  | x :: l, [], _, _, h => absurd ((h x).1 (List.mem_cons_self ..)) (by simp)
  | x :: l, y :: m, hl, hm, h => by
    rw [srt_cons] at hl hm
    have e : x = y := by
      rcases List.mem_cons.1 ((h x).1 (List.mem_cons_self ..)) with e | e
      · exact e
      · rcases List.mem_cons.1 ((h y).2 (List.mem_cons_self ..)) with e2 | e2
        · exact e2.symm
        · have := hl.1 y e2; have := hm.1 x e; omega
    subst e
    rw [srt_ext hl.2 hm.2 (fun z => ?_)]
    constructor
    · intro hz
      rcases List.mem_cons.1 ((h z).1 (List.mem_cons_of_mem _ hz)) with e | e
      · subst e; have := hl.1 z hz; omega
      · exact e
    · intro hz
      rcases List.mem_cons.1 ((h z).2 (List.mem_cons_of_mem _ hz)) with e | e
      · subst e; have := hm.1 z hz; omega
      · exact e
/-- Keys within bounds: no more blocks than keys. -/
theorem srt_len : ∀ {l : List Bl} {a b : Int}, Srt l → (∀ x ∈ l, a ≤ x.1 ∧ x.1 < b) → l.length ≤ (b - a).toNat
  | [], _, _, _, _ => by simp
  | x :: l, a, b, h, hb => by
    rw [srt_cons] at h
    have h1 := hb x (List.mem_cons_self ..)
    have := srt_len (l := l) (a := x.1 + 1) (b := b) h.2 (fun y hy => ⟨by have := h.1 y hy; omega, (hb y (List.mem_cons_of_mem _ hy)).2⟩)
    simp; omega

theorem inb_le (p : Int) (x : Bl) : inb p x ≤ 1 := by unfold inb; split <;> omega
theorem inb_at (x : Bl) : inb x.1 x = 1 := by unfold inb; have := pw_pos x.2; rw [if_pos (by omega)]
theorem inb_one {p : Int} {x : Bl} : inb p x = 1 ↔ x.1 ≤ p ∧ p < x.1 + pw x.2 := by unfold inb; split <;> simp_all
theorem cnt_mem {p : Int} {l : List Bl} {x : Bl} (h : x ∈ l) : inb p x ≤ cnt p l := by
  induction l with
  | nil => cases h
  | cons y l ih =>
    rcases List.mem_cons.1 h with rfl | h
    · simp [cnt]
    · have := ih h; simp [cnt]; omega
theorem cnt_pos {p : Int} {l : List Bl} (h : 0 < cnt p l) : ∃ x ∈ l, x.1 ≤ p ∧ p < x.1 + pw x.2 := by
  induction l with
  | nil => simp [cnt] at h
  | cons y l ih =>
    simp only [cnt] at h
    by_cases hy : y.1 ≤ p ∧ p < y.1 + pw y.2
    · exact ⟨y, List.mem_cons_self .., hy⟩
    · have : inb p y = 0 := by unfold inb; rw [if_neg hy]
      obtain ⟨x, hx, h2⟩ := ih (by omega)
      exact ⟨x, List.mem_cons_of_mem _ hx, h2⟩
/-- Two that begin elsewhere. -/
theorem cnt_two {p : Int} {l : List Bl} {x y : Bl} (hx : x ∈ l) (hy : y ∈ l) (hne : x.1 ≠ y.1) : inb p x + inb p y ≤ cnt p l := by
  induction l with
  | nil => cases hx
  | cons z l ih =>
    rcases List.mem_cons.1 hx with h1 | h1 <;> rcases List.mem_cons.1 hy with h2 | h2
    · exact absurd (by rw [h1, h2]) hne
    · have := cnt_mem (p := p) h2; rw [h1]; simp [cnt]; omega
    · have := cnt_mem (p := p) h1; rw [h2]; simp [cnt]; omega
    · have := ih h1 h2; simp [cnt]; omega
theorem cnt_ins (p : Int) {x : Bl} {l : List Bl} (h : ∀ y ∈ l, y.1 ≠ x.1) : cnt p (ins x l) = inb p x + cnt p l := by
  induction l with
  | nil => simp [ins, cnt]
  | cons y l ih =>
    have h1 := h y (List.mem_cons_self ..)
    unfold ins
    split
    · simp [cnt]
    · split
      · omega
      · have := ih (fun z hz => h z (List.mem_cons_of_mem _ hz)); simp [cnt]; omega
theorem del_none {a : Int} {l : List Bl} (h : ∀ y ∈ l, y.1 ≠ a) : del a l = l := by
  unfold del; rw [List.filter_eq_self]; intro y hy; simpa using h y hy
theorem cnt_del (p : Int) {x : Bl} {l : List Bl} (hs : Srt l) (h : x ∈ l) : cnt p (del x.1 l) + inb p x = cnt p l := by
  induction l with
  | nil => cases h
  | cons y l ih =>
    rw [srt_cons] at hs
    rcases List.mem_cons.1 h with h1 | h
    · subst h1
      have e : del x.1 (x :: l) = l := by
        show List.filter _ (x :: l) = l
        rw [List.filter_cons]
        simp only [bne_self_eq_false, Bool.false_eq_true, if_false]
        exact del_none (a := x.1) (fun y hy => by have := hs.1 y hy; omega)
      rw [e]; simp [cnt]; omega
    · have := hs.1 x h
      have e : del x.1 (y :: l) = y :: del x.1 l := by
        show List.filter _ (y :: l) = y :: List.filter _ l
        rw [List.filter_cons, if_pos (by simp only [bne_iff_ne, ne_eq]; omega)]
      rw [e]; have := ih hs.2 h; simp [cnt]; omega

/-- Blocks free and taken, and one that is with neither ('hole'): each page is in one. -/
structure HInv (N : Int) (F T : List Bl) (x : Bl) : Prop where
  sF : Srt F
  sT : Srt T
  oF : ∀ y ∈ F, Okb y
  oT : ∀ y ∈ T, Okb y
  ox : Okb x
  one : ∀ p, cnt p F + cnt p T + inb p x = ind N p
  nob : ∀ y ∈ F, y.2 < 6 → (bud y.1 y.2, y.2) ∉ F
structure Inv (N : Int) (F T : List Bl) : Prop where
  sF : Srt F
  sT : Srt T
  oF : ∀ y ∈ F, Okb y
  oT : ∀ y ∈ T, Okb y
  one : ∀ p, cnt p F + cnt p T = ind N p
  nob : ∀ y ∈ F, y.2 < 6 → (bud y.1 y.2, y.2) ∉ F

theorem ind_le (N p : Int) : ind N p ≤ 1 := by unfold ind; split <;> omega
theorem ind_one {N p : Int} : ind N p = 1 ↔ 0 ≤ p ∧ p < N := by unfold ind; split <;> simp_all

/-- Within the pages. -/
theorem in_pages {N : Int} {x : Bl} (h : ∀ p, inb p x ≤ ind N p) : 0 ≤ x.1 ∧ x.1 + pw x.2 ≤ N := by
  have h1 := h x.1
  rw [inb_at] at h1
  have h2 := h (x.1 + pw x.2 - 1)
  have hp := pw_pos x.2
  rw [inb_one.2 ⟨by omega, by omega⟩] at h2
  have q1 := ind_one.1 (Nat.le_antisymm (ind_le N x.1) h1)
  have q2 := ind_one.1 (Nat.le_antisymm (ind_le N _) h2)
  exact ⟨q1.1, by omega⟩
theorem Inv.inF {N : Int} {F T : List Bl} (h : Inv N F T) {x : Bl} (hx : x ∈ F) : 0 ≤ x.1 ∧ x.1 + pw x.2 ≤ N :=
  in_pages fun p => by have := cnt_mem (p := p) hx; have := h.one p; omega
theorem Inv.inT {N : Int} {F T : List Bl} (h : Inv N F T) {x : Bl} (hx : x ∈ T) : 0 ≤ x.1 ∧ x.1 + pw x.2 ≤ N :=
  in_pages fun p => by have := cnt_mem (p := p) hx; have := h.one p; omega
theorem HInv.inF {N : Int} {F T : List Bl} {z : Bl} (h : HInv N F T z) {x : Bl} (hx : x ∈ F) : 0 ≤ x.1 ∧ x.1 + pw x.2 ≤ N :=
  in_pages fun p => by have := cnt_mem (p := p) hx; have := h.one p; omega
theorem HInv.inX {N : Int} {F T : List Bl} {z : Bl} (h : HInv N F T z) : 0 ≤ z.1 ∧ z.1 + pw z.2 ≤ N :=
  in_pages fun p => by have := h.one p; omega
/-- Nothing free, nothing taken begins within the hole. -/
theorem HInv.offF {N : Int} {F T : List Bl} {z : Bl} (h : HInv N F T z) {y : Bl} (hy : y ∈ F) : ¬ (z.1 ≤ y.1 ∧ y.1 < z.1 + pw z.2) := fun c => by
  have h1 := cnt_mem (p := y.1) hy
  rw [inb_at] at h1
  have h2 := h.one y.1
  rw [inb_one.2 c] at h2
  have := ind_le N y.1
  omega
theorem HInv.offT {N : Int} {F T : List Bl} {z : Bl} (h : HInv N F T z) {y : Bl} (hy : y ∈ T) : ¬ (z.1 ≤ y.1 ∧ y.1 < z.1 + pw z.2) := fun c => by
  have h1 := cnt_mem (p := y.1) hy
  rw [inb_at] at h1
  have h2 := h.one y.1
  rw [inb_one.2 c] at h2
  have := ind_le N y.1
  omega

/-- A free block is taken out. -/
theorem Inv.outF {N : Int} {F T : List Bl} (h : Inv N F T) {x : Bl} (hx : x ∈ F) : HInv N (del x.1 F) T x :=
  ⟨srt_del h.sF, h.sT, fun y hy => h.oF y (mem_del.1 hy).1, h.oT, h.oF x hx, fun p => by have := cnt_del p h.sF hx; have := h.one p; omega,
   fun y hy h6 hb => h.nob y (mem_del.1 hy).1 h6 (mem_del.1 hb).1⟩
theorem Inv.outT {N : Int} {F T : List Bl} (h : Inv N F T) {x : Bl} (hx : x ∈ T) : HInv N F (del x.1 T) x :=
  ⟨h.sF, srt_del h.sT, h.oF, fun y hy => h.oT y (mem_del.1 hy).1, h.oT x hx, fun p => by have := cnt_del p h.sT hx; have := h.one p; omega, h.nob⟩
/-- The hole is taken. -/
theorem HInv.inTaken {N : Int} {F T : List Bl} {x : Bl} (h : HInv N F T x) : Inv N F (ins x T) :=
  ⟨h.sF, srt_ins h.sT, h.oF, fun y hy => by rcases mem_ins_sub hy with rfl | hy; exact h.ox; exact h.oT y hy,
   fun p => by rw [cnt_ins p (fun y hy => fun e => h.offT hy (by rw [e]; have := pw_pos x.2; omega))]; have := h.one p; omega, h.nob⟩
end Bd
end Go.Proofs.YtfefehkapffljaaGreatDoor
namespace Go.Proofs.YtfefehkapffljaaGreatDoor
open Go.RowKit
namespace Bd
open Fr

/-- The lower half of an aligned block, its upper one: halves, and each other's buddies. -/
theorem half_dvd {a k : Int} (k1 : 1 ≤ k) (h : pw k ∣ a) : pw (k - 1) ∣ a ∧ pw (k - 1) ∣ a + pw (k - 1) ∧ pw k = 2 * pw (k - 1) := by
  have h1 : pw (k - 1) ∣ a := Int.dvd_trans (pw_dvd (by omega) (by omega)) h
  have h2 := pw_succ (k - 1) (by omega)
  rw [show k - 1 + 1 = k from by omega] at h2
  exact ⟨h1, Int.dvd_add h1 (Int.dvd_refl _), h2⟩
theorem div_even {a k : Int} (k0 : 0 ≤ k) (h : pw (k + 1) ∣ a) : a / pw k % 2 = 0 := by
  obtain ⟨c, rfl⟩ := h
  have hp := pw_pos k
  rw [pw_succ k k0, show 2 * pw k * c = pw k * (2 * c) from by rw [Int.mul_comm 2 (pw k), Int.mul_assoc], Int.mul_ediv_cancel_left _ (by omega)]
  omega
theorem bud_low {a k : Int} (k0 : 0 ≤ k) (h : pw (k + 1) ∣ a) : bud a k = a + pw k := by
  unfold bud; rw [if_pos (div_even k0 h)]
theorem bud_high {a k : Int} (k0 : 0 ≤ k) (h : pw (k + 1) ∣ a) : bud (a + pw k) k = a := by
  have hp := pw_pos k
  unfold bud
  have e : (a + pw k) / pw k = a / pw k + 1 := Int.add_ediv_of_dvd_right (Int.dvd_refl _) |>.trans (by rw [Int.ediv_self (by omega)])
  have := div_even k0 h
  rw [if_neg (by rw [e]; omega)]; omega
/-- An aligned block is the lower or the upper half of its parent. -/
theorem low_or_high {a k : Int} (k0 : 0 ≤ k) (h : pw k ∣ a) : pw (k + 1) ∣ a ∨ pw (k + 1) ∣ a - pw k := by
  obtain ⟨c, rfl⟩ := h
  rw [pw_succ k k0]
  rcases (by omega : c % 2 = 0 ∨ c % 2 = 1) with e | e
  · left
    obtain ⟨d, rfl⟩ : ∃ d, c = 2 * d := ⟨c / 2, by omega⟩
    exact ⟨d, by rw [Int.mul_comm 2 (pw k), Int.mul_assoc]⟩
  · right
    obtain ⟨d, rfl⟩ : ∃ d, c = 2 * d + 1 := ⟨c / 2, by omega⟩
    exact ⟨d, by rw [Int.mul_add, Int.mul_comm 2 (pw k), Int.mul_assoc]; omega⟩
theorem inb_halves (p a k : Int) (h : 0 ≤ k) : inb p (a, k + 1) = inb p (a, k) + inb p (a + pw k, k) := by
  have := pw_succ k h
  have := pw_pos k
  unfold inb
  simp only
  by_cases c1 : a ≤ p ∧ p < a + pw (k + 1)
  · rw [if_pos c1]
    by_cases c2 : p < a + pw k
    · rw [if_pos ⟨c1.1, c2⟩, if_neg (by omega)]
    · rw [if_neg (by omega), if_pos (by omega)]
  · rw [if_neg c1, if_neg (by omega), if_neg (by omega)]

/-- The hole is halved: the upper half is free. -/
theorem HInv.halve {N : Int} {F T : List Bl} {a k : Int} (h : HInv N F T (a, k)) (k1 : 1 ≤ k) : HInv N (ins (a + pw (k - 1), k - 1) F) T (a, k - 1) := by
  obtain ⟨hd1, hd2, hd3⟩ := half_dvd k1 h.ox.2.2
  have hp := pw_pos (k - 1)
  have hal : pw (k - 1 + 1) ∣ a := by rw [show k - 1 + 1 = k from by omega]; exact h.ox.2.2
  have ho := h.ox
  unfold Okb at ho
  simp only at ho hd1 hd2 hd3
  have off : ∀ y ∈ F, y.1 ≠ a ∧ y.1 ≠ a + pw (k - 1) := fun y hy => by
    have := h.offF hy; simp only at this; constructor <;> omega
  refine ⟨srt_ins h.sF, h.sT, fun y hy => ?_, h.oT, ⟨by simp only; omega, by simp only; omega, hd1⟩, fun p => ?_, fun y hy h6 hb => ?_⟩
  · rcases mem_ins_sub hy with rfl | hy
    · exact ⟨by simp only; omega, by simp only; omega, hd2⟩
    · exact h.oF y hy
  · rw [cnt_ins p (fun y hy => (off y hy).2)]
    have h1 := h.one p
    have h2 := inb_halves p a (k - 1) (by omega)
    rw [show k - 1 + 1 = k from by omega] at h2
    omega
  · rcases mem_ins_sub hy with rfl | hy
    · simp only at hb
      rw [bud_high (by omega) hal] at hb
      rcases mem_ins_sub hb with e | hb
      · have := congrArg Prod.fst e; simp only at this; omega
      · exact (off _ hb).1 rfl
    · rcases mem_ins_sub hb with e | hb
      · have e1 := congrArg Prod.fst e
        have e2 := congrArg Prod.snd e
        simp only at e1 e2
        -- y is the low half
        have : y.1 = a := by
          have ey := h.oF y hy
          unfold Okb at ey
          rcases low_or_high (k := y.2) (by omega) ey.2.2 with c | c
          · rw [bud_low (by omega) c] at e1
            rw [e2] at e1; omega
          · have := bud_high (a := y.1 - pw y.2) (by omega) c
            rw [show y.1 - pw y.2 + pw y.2 = y.1 from by omega] at this
            rw [this] at e1
            rw [e2] at e1 c
            -- y.1 = a + 2 * pw (k-1), and its lower half begins at a + pw (k-1)
            exfalso
            rw [e1] at c
            have c2 := Int.dvd_sub c hal
            rw [show a + pw (k - 1) - a = pw (k - 1) from by omega, pw_succ (k - 1) (by omega)] at c2
            have := Int.le_of_dvd (by omega) c2
            omega
        exact (off y hy).1 this
      · exact h.nob y hy h6 hb

/-- The block's buddy, which is free, is joined to it. -/
theorem HInv.join {N : Int} {F T : List Bl} {a k : Int} (h : HInv N F T (a, k)) (k5 : k ≤ 5) (hb : (bud a k, k) ∈ F) : HInv N (del (bud a k) F) T (par a k, k + 1) := by
  have ho := h.ox
  unfold Okb at ho
  simp only at ho
  have hp := pw_pos k
  have hpar : pw (k + 1) ∣ par a k := Int.dvd_mul_left _ _
  have key : (pw (k + 1) ∣ a ∧ bud a k = a + pw k ∧ par a k = a) ∨ (pw (k + 1) ∣ a - pw k ∧ bud a k = a - pw k ∧ par a k = a - pw k) := by
    rcases low_or_high ho.1 ho.2.2 with c | c
    · exact Or.inl ⟨c, bud_low ho.1 c, by unfold par; exact Int.ediv_mul_cancel c⟩
    · refine Or.inr ⟨c, ?_, ?_⟩
      · have := bud_high ho.1 c
        rw [show a - pw k + pw k = a from by omega] at this; exact this
      · unfold par
        obtain ⟨d, hd⟩ := c
        have h2 := pw_succ k ho.1
        have : a / pw (k + 1) = d := by
          rw [show a = pw k + pw (k + 1) * d from by omega, Int.add_mul_ediv_left _ _ (by omega), Int.ediv_eq_zero_of_lt (by omega) (by omega)]; omega
        rw [this, Int.mul_comm]; omega
  refine ⟨srt_del h.sF, h.sT, fun y hy => h.oF y (mem_del.1 hy).1, h.oT, ⟨by simp only; omega, by simp only; omega, hpar⟩, fun p => ?_, fun y hy h6 hb => h.nob y (mem_del.1 hy).1 h6 (mem_del.1 hb).1⟩
  have h1 := h.one p
  have h2 := cnt_del p h.sF hb
  simp only at h2
  rcases key with ⟨_, e1, e2⟩ | ⟨_, e1, e2⟩
  · have h3 := inb_halves p a k ho.1
    rw [e2]; rw [e1] at h2 ⊢; omega
  · have h3 := inb_halves p (a - pw k) k ho.1
    rw [show a - pw k + pw k = a from by omega] at h3
    rw [e2]; rw [e1] at h2 ⊢; omega
theorem min_par {a k : Int} (k0 : 0 ≤ k) (h : pw k ∣ a) : par a k = if a ≤ bud a k then a else bud a k := by
  have hp := pw_pos k
  rcases low_or_high k0 h with c | c
  · rw [bud_low k0 c, if_pos (by omega)]; unfold par; exact Int.ediv_mul_cancel c
  · have e := bud_high k0 c
    rw [show a - pw k + pw k = a from by omega] at e
    rw [e, if_neg (by omega)]
    unfold par
    obtain ⟨d, hd⟩ := c
    have h2 := pw_succ k k0
    have : a / pw (k + 1) = d := by
      rw [show a = pw k + pw (k + 1) * d from by omega, Int.add_mul_ediv_left _ _ (by omega), Int.ediv_eq_zero_of_lt (by omega) (by omega)]; omega
    rw [this, Int.mul_comm]; omega
/-- A buddy's buddy. -/
theorem bud_bud {a k : Int} (k0 : 0 ≤ k) (h : pw k ∣ a) : bud (bud a k) k = a := by
  rcases low_or_high k0 h with c | c
  · rw [bud_low k0 c, bud_high k0 c]
  · have e := bud_high k0 c
    rw [show a - pw k + pw k = a from by omega] at e
    rw [e, bud_low k0 c]; omega
theorem bud_dvd {a k : Int} (_k0 : 0 ≤ k) (h : pw k ∣ a) : pw k ∣ bud a k := by
  unfold bud; split
  · exact Int.dvd_add h (Int.dvd_refl _)
  · exact Int.dvd_sub h (Int.dvd_refl _)
/-- The hole, whose buddy isn't free, is free. -/
theorem HInv.inFree {N : Int} {F T : List Bl} {x : Bl} (h : HInv N F T x) (hb : x.2 = 6 ∨ (bud x.1 x.2, x.2) ∉ F) : Inv N (ins x F) T := by
  have hp := pw_pos x.2
  have ho := h.ox
  unfold Okb at ho
  refine ⟨srt_ins h.sF, h.sT, fun y hy => by rcases mem_ins_sub hy with rfl | hy; exact h.ox; exact h.oF y hy, h.oT,
    fun p => by rw [cnt_ins p (fun y hy => fun e => h.offF hy (by omega))]; have := h.one p; omega, fun y hy h6 hy2 => ?_⟩
  rcases mem_ins_sub hy with rfl | hy
  · rcases mem_ins_sub hy2 with e | hy2
    · have e1 := congrArg Prod.fst e
      simp only at e1
      unfold bud at e1
      split at e1 <;> omega
    · rcases hb with hb | hb
      · omega
      · exact hb hy2
  · rcases mem_ins_sub hy2 with e | hy2
    · have e1 := congrArg Prod.fst e
      have e2 := congrArg Prod.snd e
      simp only at e1 e2
      have oy := h.oF y hy
      unfold Okb at oy
      have := bud_bud oy.1 oy.2.2
      rw [e1, e2] at this
      rcases hb with hb | hb
      · omega
      · exact hb (by rw [this, ← e2]; exact hy)
    · exact h.nob y hy h6 hy2

/-- What was taken as one is taken as its halves. -/
theorem Inv.split {N : Int} {F T : List Bl} {a k : Int} (h : Inv N F T) (hx : (a, k) ∈ T) (k1 : 1 ≤ k) : Inv N F (ins (a + pw (k - 1), k - 1) (ins (a, k - 1) T)) := by
  have ho := h.oT _ hx
  unfold Okb at ho
  simp only at ho
  obtain ⟨hd1, hd2, hd3⟩ := half_dvd k1 ho.2.2
  have hp := pw_pos (k - 1)
  have H := h.outT hx
  have off : ∀ y ∈ del a T, y.1 ≠ a ∧ y.1 ≠ a + pw (k - 1) := fun y hy => by
    have := H.offT hy; simp only at this; constructor <;> omega
  -- 'ins (a, k - 1) T' is 'ins (a, k - 1)' of T without the block
  have e : ins (a, k - 1) T = ins (a, k - 1) (del a T) := srt_ext (srt_ins h.sT) (srt_ins (srt_del h.sT)) (fun y => by
    rw [mem_ins h.sT, mem_ins (srt_del h.sT), mem_del]
    constructor
    · rintro (h | ⟨h, h2⟩)
      · exact Or.inl h
      · exact Or.inr ⟨⟨h, h2⟩, h2⟩
    · rintro (h | ⟨⟨h, h2⟩, _⟩)
      · exact Or.inl h
      · exact Or.inr ⟨h, h2⟩)
  rw [e]
  refine ⟨h.sF, srt_ins (srt_ins (srt_del h.sT)), h.oF, fun y hy => ?_, fun p => ?_, h.nob⟩
  · rcases mem_ins_sub hy with rfl | hy
    · exact ⟨by simp only; omega, by simp only; omega, hd2⟩
    · rcases mem_ins_sub hy with rfl | hy
      · exact ⟨by simp only; omega, by simp only; omega, hd1⟩
      · exact h.oT y (mem_del.1 hy).1
  · rw [cnt_ins p (fun y hy => by
      rcases mem_ins_sub hy with rfl | hy
      · simp only; omega
      · exact (off y hy).2), cnt_ins p (fun y hy => (off y hy).1)]
    have h1 := H.one p
    have h2 := inb_halves p a (k - 1) (by omega)
    rw [show k - 1 + 1 = k from by omega] at h2
    simp only at h1
    omega

/-- Nothing taken: no free block is the lower half of what lies within the pages. -/
theorem no_low {N : Int} {F : List Bl} (h : Inv N F []) : ∀ (n : Nat) (a k : Int), k.toNat = n → (a, k) ∈ F → k ≤ 5 → pw (k + 1) ∣ a → a + pw (k + 1) ≤ N → False := by
  intro n
  induction n using Nat.strongRecOn with
  | _ n ih =>
    intro a k hn hx k5 hal hN
    have ho := h.oF _ hx
    unfold Okb at ho
    simp only at ho
    have hp := pw_pos k
    have hs := pw_succ k ho.1
    have hin := h.inF hx
    simp only at hin
    have h1 := h.one (a + pw k)
    rw [ind_one.2 ⟨by omega, by omega⟩] at h1
    simp only [cnt] at h1
    obtain ⟨z, hz, hz1, hz2⟩ := cnt_pos (p := a + pw k) (l := F) (by omega)
    have oz := h.oF z hz
    unfold Okb at oz
    have hzp := pw_pos z.2
    have hb : z.1 = a + pw k := by
      refine Int.le_antisymm hz1 (Int.not_lt.1 fun hlt => ?_)
      have hne : (a, k).1 ≠ z.1 := fun e => by
        have := srt_key h.sF hx hz e
        rw [← this] at hz2; simp only at hz2; omega
      have h2 := cnt_two (p := a + pw k - 1) hx hz hne
      rw [inb_one.2 (by simp only; omega), inb_one.2 (by omega)] at h2
      have h3 := h.one (a + pw k - 1)
      have := ind_le N (a + pw k - 1)
      simp only [cnt] at h3
      omega
    rcases Int.lt_trichotomy z.2 k with hlt | heq | hgt
    · -- smaller: again
      have hd : pw (z.2 + 1) ∣ z.1 := by
        rw [hb]
        exact Int.dvd_add (Int.dvd_trans (pw_dvd (by omega) (by omega)) hal) (pw_dvd (by omega) (by omega))
      have hle : pw (z.2 + 1) ≤ pw k := Int.le_of_dvd hp (pw_dvd (by omega) (by omega))
      exact ih z.2.toNat (by omega) z.1 z.2 rfl hz (by omega) hd (by omega)
    · have := h.nob _ hx (by simp only; omega)
      simp only at this
      rw [bud_low ho.1 hal, ← hb, ← heq] at this
      exact this hz
    · have hd : pw (k + 1) ∣ z.1 := Int.dvd_trans (pw_dvd (by omega) (by omega)) oz.2.2
      rw [hb] at hd
      have := Int.dvd_sub hd hal
      rw [show a + pw k - a = pw k from by omega, hs] at this
      have := Int.le_of_dvd hp this
      omega

/-- The widest order that fits is the greatest. -/
theorem wid_max {a r j : Int} (j0 : 0 ≤ j) (j6 : j ≤ 6) (hd : pw j ∣ a) (hr : pw j ≤ r) : j ≤ wid a r := by
  have hp := pw_pos j
  have hw := wid_facts a r (by omega)
  refine Int.not_lt.1 fun hlt => ?_
  have hc : ∀ i, 0 ≤ i → i ≤ j → Fr.cond a r i = true := fun i h0 hi => by
    have := Int.le_of_dvd hp (pw_dvd h0 hi)
    simp only [Fr.cond, Bool.and_eq_true, decide_eq_true_eq]
    exact ⟨(al_dvd _ _).2 (Int.dvd_trans (pw_dvd h0 hi) hd), by omega⟩
  have hu : ∀ i, 0 ≤ i → i < j → (i = 6 ∨ Fr.cond a r (i + 1) = false) → False := fun i h0 hi h => by
    rcases h with h | h
    · omega
    · rw [hc (i + 1) (by omega) (by omega)] at h; cases h
  -- the chain of tests stops below j
  have c := fun i h0 hi => hc i h0 hi
  unfold wid at hlt
  rcases orders j j0 j6 with rfl | rfl | rfl | rfl | rfl | rfl | rfl
  · have := hw.1; unfold wid at this; omega
  · rw [if_pos (c 1 (by omega) (by omega))] at hlt
    repeat (split at hlt)
    all_goals omega
  · rw [if_pos (c 1 (by omega) (by omega)), if_pos (c 2 (by omega) (by omega))] at hlt
    repeat (split at hlt)
    all_goals omega
  · rw [if_pos (c 1 (by omega) (by omega)), if_pos (c 2 (by omega) (by omega)), if_pos (c 3 (by omega) (by omega))] at hlt
    repeat (split at hlt)
    all_goals omega
  · rw [if_pos (c 1 (by omega) (by omega)), if_pos (c 2 (by omega) (by omega)), if_pos (c 3 (by omega) (by omega)), if_pos (c 4 (by omega) (by omega))] at hlt
    repeat (split at hlt)
    all_goals omega
  · rw [if_pos (c 1 (by omega) (by omega)), if_pos (c 2 (by omega) (by omega)), if_pos (c 3 (by omega) (by omega)), if_pos (c 4 (by omega) (by omega)), if_pos (c 5 (by omega) (by omega))] at hlt
    repeat (split at hlt)
    all_goals omega
  · rw [if_pos (c 1 (by omega) (by omega)), if_pos (c 2 (by omega) (by omega)), if_pos (c 3 (by omega) (by omega)), if_pos (c 4 (by omega) (by omega)), if_pos (c 5 (by omega) (by omega)), if_pos (c 6 (by omega) (by omega))] at hlt
    omega
end Bd
end Go.Proofs.YtfefehkapffljaaGreatDoor
namespace Go.Proofs.YtfefehkapffljaaGreatDoor
open Go.RowKit
namespace Bd
open Fr
def seg (a t p : Int) : Nat := if a ≤ p ∧ p < t then 1 else 0
theorem cv_facts : ∀ (n : Nat) (a r : Int), r.toNat = n → Srt (cv a r) ∧ (∀ p, cnt p (cv a r) = seg a (a + r) p) ∧ ∀ x ∈ cv a r, a ≤ x.1 ∧ x.1 + pw x.2 ≤ a + r ∧ Okb x ∧ x.2 = wid x.1 (a + r - x.1) := by
  intro n
  induction n using Nat.strongRecOn with
  | _ n ih =>
    intro a r hn
    by_cases hr : r ≤ 0
    · rw [cv_nil a r hr]
      refine ⟨srt_nil, fun p => ?_, fun x hx => by cases hx⟩
      unfold seg; rw [if_neg (by omega)]; rfl
    · have hw := wid_facts a r (by omega)
      have hp := pw_pos (wid a r)
      obtain ⟨h1, h2, h3⟩ := ih (r - pw (wid a r)).toNat (by omega) (a + pw (wid a r)) (r - pw (wid a r)) rfl
      rw [show a + pw (wid a r) + (r - pw (wid a r)) = a + r by omega] at h2 h3
      rw [cv_cons a r (by omega)]
      refine ⟨srt_cons.2 ⟨fun y hy => by have := (h3 y hy).1; simp only; omega, h1⟩, fun p => ?_, fun x hx => ?_⟩
      · simp only [cnt]
        rw [h2]
        unfold inb seg
        simp only
        by_cases c1 : a ≤ p ∧ p < a + pw (wid a r)
        · rw [if_pos c1, if_neg (by omega), if_pos (by omega)]
        · rw [if_neg c1]
          by_cases c2 : a + pw (wid a r) ≤ p ∧ p < a + r
          · rw [if_pos c2, if_pos (by omega)]
          · rw [if_neg c2, if_neg (by omega)]
      · rcases List.mem_cons.1 hx with rfl | hx
        · refine ⟨Int.le_refl _, by simp only; omega, ⟨hw.1, hw.2.1, (al_dvd _ _).1 hw.2.2.1⟩, ?_⟩
          simp only
          rw [show a + r - a = r by omega]
        · have := h3 x hx
          exact ⟨by omega, this.2.1, this.2.2⟩

theorem cv_inv (N : Int) (_h0 : 0 ≤ N) : Inv N (cv 0 N) [] := by
  obtain ⟨h1, h2, h3⟩ := cv_facts N.toNat 0 N rfl
  rw [show (0 : Int) + N = N by omega] at h2 h3
  refine ⟨h1, srt_nil, fun y hy => (h3 y hy).2.2.1, fun y hy => (by cases hy), fun p => (by rw [h2]; rfl), fun y hy h6 hb => ?_⟩
  -- of two buddies the lower one would have been wider
  have key : ∀ a k : Int, 0 ≤ k → k < 6 → pw (k + 1) ∣ a → (a, k) ∈ cv 0 N → (a + pw k, k) ∈ cv 0 N → False := fun a k k0 k6 hd q1 q2 => by
    have e1 := (h3 _ q1).2.2.2
    have e2 := (h3 _ q2).2.1
    simp only at e1 e2
    have hs := pw_succ k k0
    have := wid_max (a := a) (r := N - a) (j := k + 1) (by omega) (by omega) hd (by omega)
    omega
  have ho := (h3 y hy).2.2.1
  unfold Okb at ho
  rcases low_or_high ho.1 ho.2.2 with c | c
  · rw [bud_low ho.1 c] at hb
    exact key y.1 y.2 ho.1 h6 c hy hb
  · have e := bud_high ho.1 c
    rw [show y.1 - pw y.2 + pw y.2 = y.1 by omega] at e
    rw [e] at hb
    exact key (y.1 - pw y.2) y.2 ho.1 h6 c hb (by rw [show y.1 - pw y.2 + pw y.2 = y.1 by omega]; exact hy)

theorem uniq {N : Int} : ∀ (n : Nat) (a : Int) (F : List Bl), (N - a).toNat = n → a ≤ N → Srt F → (∀ x ∈ F, Okb x) → (∀ p, cnt p F = seg a N p) → (∀ x ∈ F, x.2 ≤ 5 → pw (x.2 + 1) ∣ x.1 → x.1 + pw (x.2 + 1) ≤ N → False) → F = cv a (N - a) := by
  intro n
  induction n using Nat.strongRecOn with
  | _ n ih =>
    intro a F hn haN hs ho hc hl
    by_cases hr : N - a ≤ 0
    · rw [cv_nil _ _ hr]
      cases F with
      | nil => rfl
      | cons y l =>
        have h1 := cnt_mem (p := y.1) (List.mem_cons_self (a := y) (l := l))
        rw [inb_at, hc] at h1
        unfold seg at h1
        rw [if_neg (by omega)] at h1
        omega
    · cases F with
      | nil =>
        have := hc a
        simp only [cnt, seg] at this
        rw [if_pos (by omega)] at this
        cases this
      | cons y l =>
        have hy : y ∈ y :: l := List.mem_cons_self ..
        rw [srt_cons] at hs
        have hp := pw_pos y.2
        -- the first block begins at a
        have hin : a ≤ y.1 := by
          have h1 := cnt_mem (p := y.1) hy
          rw [inb_at, hc] at h1
          unfold seg at h1
          split at h1 <;> omega
        have hya : y.1 = a := by
          have h1 := hc a
          unfold seg at h1
          rw [if_pos (by omega)] at h1
          obtain ⟨z, hz, z1, z2⟩ := cnt_pos (p := a) (l := y :: l) (by omega)
          rcases List.mem_cons.1 hz with e | hz
          · rw [e] at z1; omega
          · have := hs.1 z hz; omega
        have hend : a + pw y.2 ≤ N := by
          have h1 := cnt_mem (p := y.1 + pw y.2 - 1) hy
          rw [inb_one.2 (by omega), hc] at h1
          unfold seg at h1
          split at h1 <;> omega
        have oy := ho y hy
        unfold Okb at oy
        have hd : pw y.2 ∣ a := by rw [← hya]; exact oy.2.2
        have hw := wid_facts a (N - a) (by omega)
        have hle := wid_max (a := a) (r := N - a) oy.1 oy.2.1 hd (by omega)
        have hord : y.2 = wid a (N - a) := by
          refine Int.le_antisymm hle (Int.not_lt.1 fun hlt => ?_)
          have hd2 : pw (y.2 + 1) ∣ a := Int.dvd_trans (pw_dvd (by omega) (by omega)) ((al_dvd _ _).1 hw.2.2.1)
          have hp2 := Int.le_of_dvd (pw_pos (wid a (N - a))) (pw_dvd (show 0 ≤ y.2 + 1 by omega) (show y.2 + 1 ≤ wid a (N - a) by omega))
          exact hl y hy (by omega) (by rw [hya]; exact hd2) (by omega)
        rw [cv_cons a (N - a) (by omega), ← hord]
        have ey : y = (a, y.2) := Prod.ext hya rfl
        have tl := ih (N - (a + pw y.2)).toNat (by omega) (a + pw y.2) l rfl hend hs.2 (fun x hx => ho x (List.mem_cons_of_mem _ hx)) (fun p => by
          have h1 := hc p
          simp only [cnt] at h1
          unfold seg at h1 ⊢
          unfold inb at h1
          rw [hya] at h1
          by_cases c1 : a ≤ p ∧ p < a + pw y.2
          · rw [if_pos c1, if_pos (by omega)] at h1
            rw [if_neg (by omega)]; omega
          · rw [if_neg c1] at h1
            by_cases c2 : a ≤ p ∧ p < N
            · rw [if_pos c2] at h1; rw [if_pos (by omega)]; omega
            · rw [if_neg c2] at h1; rw [if_neg (by omega)]; omega) (fun x hx => hl x (List.mem_cons_of_mem _ hx))
        rw [show N - a - pw y.2 = N - (a + pw y.2) by omega, ← tl]
        rw [← ey]
/-- Nothing taken: what is free is what was free at the beginning. -/
theorem all_free {N : Int} {F : List Bl} (h : Inv N F []) (h0 : 0 ≤ N) : F = cv 0 N := by
  have := uniq N.toNat 0 F (by rw [show N - 0 = N by omega]) h0 h.sF h.oF (fun p => by have := h.one p; simp only [cnt] at this; unfold seg; unfold ind at this; omega) (fun x hx h5 hd hN => no_low h x.2.toNat x.1 x.2 rfl hx h5 hd hN)
  rw [show N - 0 = N by omega] at this
  exact this
theorem ins_last {x : Bl} : ∀ {l : List Bl}, (∀ y ∈ l, y.1 < x.1) → ins x l = l ++ [x]
  | [], _ => rfl
  | y :: l, h => by
    have h1 := h y (List.mem_cons_self ..)
    unfold ins
    rw [if_neg (by omega), if_neg (by omega), ins_last (fun z hz => h z (List.mem_cons_of_mem _ hz))]
    rfl
theorem ins_take {L : List Bl} (h : Srt L) {j : Nat} (hj : j < L.length) : ins L[j] (L.take j) = L.take (j + 1) := by
  rw [List.take_succ_eq_append_getElem hj]
  refine ins_last (fun y hy => ?_)
  obtain ⟨m, hm, rfl⟩ := List.getElem_of_mem hy
  have hm2 : m < j := by simp at hm; omega
  rw [List.getElem_take]
  exact List.pairwise_iff_getElem.1 h m j (by omega) hj hm2

/-- The pages that are free. -/
def pgs : List Bl → Int
  | [] => 0
  | x :: l => pw x.2 + pgs l
end Bd
end Go.Proofs.YtfefehkapffljaaGreatDoor
namespace Go.Proofs.YtfefehkapffljaaGreatDoor
open Go.RowKit
namespace Fr
/-- A list of blocks lies in a slice. -/
def Lies (w : World) (v : Value) (L : List (Int × Int)) : Prop :=
  (L = [] ∧ v = .slice none 0 0) ∨ ∃ g c, v = .slice (some ⟨g, 0, none⟩) L.length c ∧ g < w.heap.size ∧ L ≠ [] ∧ L.length ≤ c ∧ c ≤ maxLen ∧ ∀ i, i < L.length → w.cell? ⟨g, i * 2, none⟩ = some (.int .i64 (L.getD i (0, 0)).1) ∧ w.cell? ⟨g, i * 2 + 1, none⟩ = some (.int .i64 (L.getD i (0, 0)).2)
theorem lies_of {w : World} {B : Nat} {v : Value} {L : List (Int × Int)} (h : w.ownsRow B 71 2 v L.length (flat L)) (hn : L = [] → v = .slice none 0 0) : Lies w v L := by
  by_cases hL : L = []
  · exact Or.inl ⟨hL, hn hL⟩
  · right
    rcases h.2 with ⟨_, h0⟩ | ⟨g, cap, cur, rfl, hb, hg, hle, hcap, hcs, hx⟩
    · exact absurd (List.length_eq_zero_iff.1 h0) hL
    · have hlt : g < w.heap.size := by
        rcases Nat.lt_or_ge g w.heap.size with h' | h'
        · exact h'
        · rw [Array.getElem?_eq_none h'] at hg; cases hg
      refine ⟨g, cap, rfl, hlt, hL, hle, hcap, fun i hi => ?_⟩
      have hf := flat_get L i hi
      rw [List.getD_eq_getElem?_getD, List.getElem?_eq_getElem hi, Option.getD_some]
      rw [Nat.mul_comm i 2]
      exact ⟨(h.cellAt (2 * i) (by omega)).trans hf.1, (h.cellAt (2 * i + 1) (by omega)).trans hf.2⟩
theorem Lies.b {w w' : World} {v : Value} {L : List (Int × Int)} (h : Lies w v L) (hb : Below w.heap.size w w') : Lies w' v L := by
  rcases h with h | ⟨g, c, hv, hg, hL, h1, h2, hc⟩
  · exact Or.inl h
  · exact Or.inr ⟨g, c, hv, Nat.lt_of_lt_of_le hg hb.size, hL, h1, h2, fun i hi => ⟨(hb.cell (p := ⟨g, i * 2, none⟩) hg).trans (hc i hi).1, (hb.cell (p := ⟨g, i * 2 + 1, none⟩) hg).trans (hc i hi).2⟩⟩

theorem drop_cons {L : List (Int × Int)} {j : Nat} {y : Int × Int} {r : List (Int × Int)} (h : L.drop j = y :: r) : j < L.length ∧ L.getD j (0, 0) = y ∧ L.drop (j + 1) = r := by
  have hj : j < L.length := by
    rcases Nat.lt_or_ge j L.length with h' | h'
    · exact h'
    · rw [List.drop_of_length_le h'] at h; cases h
  rw [List.drop_eq_getElem_cons hj] at h
  simp only [List.cons.injEq] at h
  refine ⟨hj, ?_, h.2⟩
  rw [List.getD_eq_getElem?_getD, List.getElem?_eq_getElem hj, Option.getD_some, h.1]

end Fr
end Go.Proofs.YtfefehkapffljaaGreatDoor
