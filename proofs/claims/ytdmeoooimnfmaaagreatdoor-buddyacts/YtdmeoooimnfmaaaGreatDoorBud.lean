/- The plain arithmetic of buddies: lists of blocks that rise by where they begin; what is put in and taken out; how often a page is in a block. Nothing of a program stands here. -/
import Derived.Test.YtdmeoooimnfmaaaGreatDoorTwice
import Derived.Test.YtdmeoooimnfmaaaGreatDoorCov
namespace Go.Proofs.YtdmeoooimnfmaaaGreatDoor
open Go.RowKit
namespace Bd
open Fr

abbrev Bl := Int × Int
/-- Rising by where they begin. -/
def Srt (l : List Bl) : Prop := l.Pairwise (fun x y => x.1 < y.1)
def ins (x : Bl) : List Bl → List Bl
  | [] => [x]
  | y :: l => if x.1 < y.1 then x :: y :: l else if x.1 = y.1 then x :: l else y :: ins x l
def del (a : Int) (l : List Bl) : List Bl := l.filter (fun y => y.1 != a)
/-- Is a page in a block? -/
def inb (p : Int) (x : Bl) : Nat := if x.1 ≤ p ∧ p < x.1 + pw x.2 then 1 else 0
def cnt (p : Int) : List Bl → Nat
  | [] => 0
  | x :: l => inb p x + cnt p l
/-- A right block: its order, and where it begins. -/
def Okb (x : Bl) : Prop := 0 ≤ x.2 ∧ x.2 ≤ 6 ∧ pw x.2 ∣ x.1
def ind (N p : Int) : Nat := if 0 ≤ p ∧ p < N then 1 else 0

theorem pw_succ (k : Int) (h : 0 ≤ k) : pw (k + 1) = 2 * pw k := by
  unfold pw
  rw [show (k + 1).toNat = k.toNat + 1 from by omega, Int.pow_succ]; omega
theorem pw_dvd {i j : Int} (_h0 : 0 ≤ i) (h : i ≤ j) : pw i ∣ pw j := by
  unfold pw
  obtain ⟨n, hn⟩ : ∃ n : Nat, j.toNat = i.toNat + n := ⟨j.toNat - i.toNat, by omega⟩
  rw [hn, Int.pow_add]
  exact Int.dvd_mul_right _ _
theorem al_dvd (a k : Int) : al a k = true ↔ pw k ∣ a := by
  rw [al_iff]
  have := pw_pos k
  constructor
  · intro h; exact ⟨a / pw k, by rw [Int.mul_comm]; exact h.symm⟩
  · intro h; exact Int.ediv_mul_cancel h
theorem pw_one (k : Int) : 1 ≤ pw k := pw_pos k

theorem srt_nil : Srt [] := List.Pairwise.nil
theorem srt_cons {x : Bl} {l : List Bl} : Srt (x :: l) ↔ (∀ y ∈ l, x.1 < y.1) ∧ Srt l := List.pairwise_cons
theorem srt_key {l : List Bl} (h : Srt l) : ∀ {x y : Bl}, x ∈ l → y ∈ l → x.1 = y.1 → x = y := by
  induction l with
  | nil => intro x y hx; cases hx
  | cons z l ih =>
    intro x y hx hy e
    rw [srt_cons] at h
    rcases List.mem_cons.1 hx with h1 | h1 <;> rcases List.mem_cons.1 hy with h2 | h2
    · rw [h1, h2]
    · have := h.1 y h2; rw [h1] at e; omega
    · have := h.1 x h1; rw [h2] at e; omega
    · exact ih h.2 h1 h2 e
theorem mem_ins_sub {x : Bl} {l : List Bl} {y : Bl} (h : y ∈ ins x l) : y = x ∨ y ∈ l := by
  induction l with
  | nil => simp [ins] at h; exact Or.inl h
  | cons z l ih =>
    unfold ins at h
    split at h
    · rcases List.mem_cons.1 h with h | h
      · exact Or.inl h
      · exact Or.inr h
    · split at h
      · rcases List.mem_cons.1 h with h | h
        · exact Or.inl h
        · exact Or.inr (List.mem_cons_of_mem _ h)
      · rcases List.mem_cons.1 h with h | h
        · exact Or.inr (by rw [h]; exact List.mem_cons_self ..)
        · rcases ih h with h | h
          · exact Or.inl h
          · exact Or.inr (List.mem_cons_of_mem _ h)
theorem mem_ins_self (x : Bl) (l : List Bl) : x ∈ ins x l := by
  induction l with
  | nil => simp [ins]
  | cons z l ih => unfold ins; split; · simp
                   · split <;> simp [ih]
theorem mem_ins_other {x y : Bl} {l : List Bl} (h : y ∈ l) (hne : y.1 ≠ x.1) : y ∈ ins x l := by
  induction l with
  | nil => cases h
  | cons z l ih =>
    unfold ins
    split
    · exact List.mem_cons_of_mem _ h
    · split
      · rcases List.mem_cons.1 h with rfl | h
        · omega
        · exact List.mem_cons_of_mem _ h
      · rcases List.mem_cons.1 h with rfl | h
        · exact List.mem_cons_self ..
        · exact List.mem_cons_of_mem _ (ih h)
theorem srt_ins {x : Bl} {l : List Bl} (h : Srt l) : Srt (ins x l) := by
  induction l with
  | nil => simp [ins, Srt]
  | cons z l ih =>
    rw [srt_cons] at h
    unfold ins
    split
    · rw [srt_cons]
      refine ⟨fun y hy => ?_, srt_cons.2 h⟩
      rcases List.mem_cons.1 hy with rfl | hy
      · assumption
      · have := h.1 y hy; omega
    · split
      · rw [srt_cons]
        exact ⟨fun y hy => by have := h.1 y hy; omega, h.2⟩
      · rw [srt_cons]
        refine ⟨fun y hy => ?_, ih h.2⟩
        rcases mem_ins_sub hy with rfl | hy
        · omega
        · exact h.1 y hy
theorem srt_del {a : Int} {l : List Bl} (h : Srt l) : Srt (del a l) := h.filter _
theorem mem_del {a : Int} {l : List Bl} {y : Bl} : y ∈ del a l ↔ y ∈ l ∧ y.1 ≠ a := by simp [del]
theorem mem_ins {x y : Bl} {l : List Bl} (h : Srt l) : y ∈ ins x l ↔ y = x ∨ (y ∈ l ∧ y.1 ≠ x.1) := by
  constructor
  · intro hy
    by_cases e : y.1 = x.1
    · exact Or.inl (srt_key (srt_ins h) hy (mem_ins_self x l) e)
    · rcases mem_ins_sub hy with h | h
      · exact Or.inl h
      · exact Or.inr ⟨h, e⟩
  · rintro (rfl | ⟨hy, e⟩)
    · exact mem_ins_self _ _
    · exact mem_ins_other hy e
/-- Two rising lists with the same blocks are one. -/
theorem srt_ext : ∀ {l m : List Bl}, Srt l → Srt m → (∀ x, x ∈ l ↔ x ∈ m) → l = m
  | [], [], _, _, _ => rfl
  | [], y :: m, _, _, h => absurd ((h y).2 (List.mem_cons_self ..)) (by simp)
  | x :: l, [], _, _, h => absurd ((h x).1 (List.mem_cons_self ..)) (by simp)
  | x :: l, y :: m, hl, hm, h => by
    rw [srt_cons] at hl hm
    have e : x = y := by
      rcases List.mem_cons.1 ((h x).1 (List.mem_cons_self ..)) with e | e
      · exact e
      · rcases List.mem_cons.1 ((h y).2 (List.mem_cons_self ..)) with e2 | e2
        · exact e2.symm
        · have := hl.1 y e2; have := hm.1 x e; omega
    subst e
    rw [srt_ext hl.2 hm.2 (fun z => ?_)]
    constructor
    · intro hz
      rcases List.mem_cons.1 ((h z).1 (List.mem_cons_of_mem _ hz)) with e | e
      · subst e; have := hl.1 z hz; omega
      · exact e
    · intro hz
      rcases List.mem_cons.1 ((h z).2 (List.mem_cons_of_mem _ hz)) with e | e
      · subst e; have := hm.1 z hz; omega
      · exact e
/-- Keys within bounds: no more blocks than keys. -/
theorem srt_len : ∀ {l : List Bl} {a b : Int}, Srt l → (∀ x ∈ l, a ≤ x.1 ∧ x.1 < b) → l.length ≤ (b - a).toNat
  | [], _, _, _, _ => by simp
  | x :: l, a, b, h, hb => by
    rw [srt_cons] at h
    have h1 := hb x (List.mem_cons_self ..)
    have := srt_len (l := l) (a := x.1 + 1) (b := b) h.2 (fun y hy => ⟨by have := h.1 y hy; omega, (hb y (List.mem_cons_of_mem _ hy)).2⟩)
    simp; omega

theorem inb_le (p : Int) (x : Bl) : inb p x ≤ 1 := by unfold inb; split <;> omega
theorem inb_at (x : Bl) : inb x.1 x = 1 := by unfold inb; have := pw_pos x.2; rw [if_pos (by omega)]
theorem inb_one {p : Int} {x : Bl} : inb p x = 1 ↔ x.1 ≤ p ∧ p < x.1 + pw x.2 := by unfold inb; split <;> simp_all
theorem cnt_mem {p : Int} {l : List Bl} {x : Bl} (h : x ∈ l) : inb p x ≤ cnt p l := by
  induction l with
  | nil => cases h
  | cons y l ih =>
    rcases List.mem_cons.1 h with rfl | h
    · simp [cnt]
    · have := ih h; simp [cnt]; omega
theorem cnt_pos {p : Int} {l : List Bl} (h : 0 < cnt p l) : ∃ x ∈ l, x.1 ≤ p ∧ p < x.1 + pw x.2 := by
  induction l with
  | nil => simp [cnt] at h
  | cons y l ih =>
    simp only [cnt] at h
    by_cases hy : y.1 ≤ p ∧ p < y.1 + pw y.2
    · exact ⟨y, List.mem_cons_self .., hy⟩
    · have : inb p y = 0 := by unfold inb; rw [if_neg hy]
      obtain ⟨x, hx, h2⟩ := ih (by omega)
      exact ⟨x, List.mem_cons_of_mem _ hx, h2⟩
/-- Two that begin elsewhere. -/
theorem cnt_two {p : Int} {l : List Bl} {x y : Bl} (hx : x ∈ l) (hy : y ∈ l) (hne : x.1 ≠ y.1) : inb p x + inb p y ≤ cnt p l := by
  induction l with
  | nil => cases hx
  | cons z l ih =>
    rcases List.mem_cons.1 hx with h1 | h1 <;> rcases List.mem_cons.1 hy with h2 | h2
    · exact absurd (by rw [h1, h2]) hne
    · have := cnt_mem (p := p) h2; rw [h1]; simp [cnt]; omega
    · have := cnt_mem (p := p) h1; rw [h2]; simp [cnt]; omega
    · have := ih h1 h2; simp [cnt]; omega
theorem cnt_ins (p : Int) {x : Bl} {l : List Bl} (h : ∀ y ∈ l, y.1 ≠ x.1) : cnt p (ins x l) = inb p x + cnt p l := by
  induction l with
  | nil => simp [ins, cnt]
  | cons y l ih =>
    have h1 := h y (List.mem_cons_self ..)
    unfold ins
    split
    · simp [cnt]
    · split
      · omega
      · have := ih (fun z hz => h z (List.mem_cons_of_mem _ hz)); simp [cnt]; omega
theorem del_none {a : Int} {l : List Bl} (h : ∀ y ∈ l, y.1 ≠ a) : del a l = l := by
  unfold del; rw [List.filter_eq_self]; intro y hy; simpa using h y hy
theorem cnt_del (p : Int) {x : Bl} {l : List Bl} (hs : Srt l) (h : x ∈ l) : cnt p (del x.1 l) + inb p x = cnt p l := by
  induction l with
  | nil => cases h
  | cons y l ih =>
    rw [srt_cons] at hs
    rcases List.mem_cons.1 h with h1 | h
    · subst h1
      have e : del x.1 (x :: l) = l := by
        show List.filter _ (x :: l) = l
        rw [List.filter_cons]
        simp only [bne_self_eq_false, Bool.false_eq_true, if_false]
        exact del_none (a := x.1) (fun y hy => by have := hs.1 y hy; omega)
      rw [e]; simp [cnt]; omega
    · have := hs.1 x h
      have e : del x.1 (y :: l) = y :: del x.1 l := by
        show List.filter _ (y :: l) = y :: List.filter _ l
        rw [List.filter_cons, if_pos (by simp only [bne_iff_ne, ne_eq]; omega)]
      rw [e]; have := ih hs.2 h; simp [cnt]; omega

/-- Blocks free and taken, and one that is with neither ('hole'): each page is in one. -/
structure HInv (N : Int) (F T : List Bl) (x : Bl) : Prop where
  sF : Srt F
  sT : Srt T
  oF : ∀ y ∈ F, Okb y
  oT : ∀ y ∈ T, Okb y
  ox : Okb x
  one : ∀ p, cnt p F + cnt p T + inb p x = ind N p
  nob : ∀ y ∈ F, y.2 < 6 → (bud y.1 y.2, y.2) ∉ F
structure Inv (N : Int) (F T : List Bl) : Prop where
  sF : Srt F
  sT : Srt T
  oF : ∀ y ∈ F, Okb y
  oT : ∀ y ∈ T, Okb y
  one : ∀ p, cnt p F + cnt p T = ind N p
  nob : ∀ y ∈ F, y.2 < 6 → (bud y.1 y.2, y.2) ∉ F

theorem ind_le (N p : Int) : ind N p ≤ 1 := by unfold ind; split <;> omega
theorem ind_one {N p : Int} : ind N p = 1 ↔ 0 ≤ p ∧ p < N := by unfold ind; split <;> simp_all

/-- Within the pages. -/
theorem in_pages {N : Int} {x : Bl} (h : ∀ p, inb p x ≤ ind N p) : 0 ≤ x.1 ∧ x.1 + pw x.2 ≤ N := by
  have h1 := h x.1
  rw [inb_at] at h1
  have h2 := h (x.1 + pw x.2 - 1)
  have hp := pw_pos x.2
  rw [inb_one.2 ⟨by omega, by omega⟩] at h2
  have q1 := ind_one.1 (Nat.le_antisymm (ind_le N x.1) h1)
  have q2 := ind_one.1 (Nat.le_antisymm (ind_le N _) h2)
  exact ⟨q1.1, by omega⟩
theorem Inv.inF {N : Int} {F T : List Bl} (h : Inv N F T) {x : Bl} (hx : x ∈ F) : 0 ≤ x.1 ∧ x.1 + pw x.2 ≤ N :=
  in_pages fun p => by have := cnt_mem (p := p) hx; have := h.one p; omega
theorem Inv.inT {N : Int} {F T : List Bl} (h : Inv N F T) {x : Bl} (hx : x ∈ T) : 0 ≤ x.1 ∧ x.1 + pw x.2 ≤ N :=
  in_pages fun p => by have := cnt_mem (p := p) hx; have := h.one p; omega
theorem HInv.inF {N : Int} {F T : List Bl} {z : Bl} (h : HInv N F T z) {x : Bl} (hx : x ∈ F) : 0 ≤ x.1 ∧ x.1 + pw x.2 ≤ N :=
  in_pages fun p => by have := cnt_mem (p := p) hx; have := h.one p; omega
theorem HInv.inX {N : Int} {F T : List Bl} {z : Bl} (h : HInv N F T z) : 0 ≤ z.1 ∧ z.1 + pw z.2 ≤ N :=
  in_pages fun p => by have := h.one p; omega
/-- Nothing free, nothing taken begins within the hole. -/
theorem HInv.offF {N : Int} {F T : List Bl} {z : Bl} (h : HInv N F T z) {y : Bl} (hy : y ∈ F) : ¬ (z.1 ≤ y.1 ∧ y.1 < z.1 + pw z.2) := fun c => by
  have h1 := cnt_mem (p := y.1) hy
  rw [inb_at] at h1
  have h2 := h.one y.1
  rw [inb_one.2 c] at h2
  have := ind_le N y.1
  omega
theorem HInv.offT {N : Int} {F T : List Bl} {z : Bl} (h : HInv N F T z) {y : Bl} (hy : y ∈ T) : ¬ (z.1 ≤ y.1 ∧ y.1 < z.1 + pw z.2) := fun c => by
  have h1 := cnt_mem (p := y.1) hy
  rw [inb_at] at h1
  have h2 := h.one y.1
  rw [inb_one.2 c] at h2
  have := ind_le N y.1
  omega

/-- A free block is taken out. -/
theorem Inv.outF {N : Int} {F T : List Bl} (h : Inv N F T) {x : Bl} (hx : x ∈ F) : HInv N (del x.1 F) T x :=
  ⟨srt_del h.sF, h.sT, fun y hy => h.oF y (mem_del.1 hy).1, h.oT, h.oF x hx, fun p => by have := cnt_del p h.sF hx; have := h.one p; omega,
   fun y hy h6 hb => h.nob y (mem_del.1 hy).1 h6 (mem_del.1 hb).1⟩
theorem Inv.outT {N : Int} {F T : List Bl} (h : Inv N F T) {x : Bl} (hx : x ∈ T) : HInv N F (del x.1 T) x :=
  ⟨h.sF, srt_del h.sT, h.oF, fun y hy => h.oT y (mem_del.1 hy).1, h.oT x hx, fun p => by have := cnt_del p h.sT hx; have := h.one p; omega, h.nob⟩
/-- The hole is taken. -/
theorem HInv.inTaken {N : Int} {F T : List Bl} {x : Bl} (h : HInv N F T x) : Inv N F (ins x T) :=
  ⟨h.sF, srt_ins h.sT, h.oF, fun y hy => by rcases mem_ins_sub hy with rfl | hy; exact h.ox; exact h.oT y hy,
   fun p => by rw [cnt_ins p (fun y hy => fun e => h.offT hy (by rw [e]; have := pw_pos x.2; omega))]; have := h.one p; omega, h.nob⟩
end Bd
end Go.Proofs.YtdmeoooimnfmaaaGreatDoor
