/- How many bits of a number are set: by counting them, and as package bits counts them; bits set and cleared one by one · Bits of a number set, cleared, asked; the first one that is not set · A cache's slabs as lists: the fullest one, where a new one belongs, one set among them. -/
import Derived.Laws.Bits64b
import Derived.Laws.BitsAllLaws
import Derived.Lib.TrailingZeros
namespace Go.Proofs.YtcbmfakjfoggaaaGreatDoor
namespace Sb
/-- Of the first n bits, those that are set. -/
def pop (x : Nat) : Nat → Nat
  | 0 => 0
  | n + 1 => pop x n + (if x.testBit n = true then 1 else 0)
theorem pop_le (x : Nat) : ∀ n, pop x n ≤ n
  | 0 => Nat.le_refl _
  | n + 1 => by have := pop_le x n; simp only [pop]; split <;> omega
theorem pop_shift (r x : Nat) (k : Nat) (hr : r < 2 ^ k) : ∀ n, pop (2 ^ k * x + r) (k + n) = pop r k + pop x n
  | 0 => by
    have h : ∀ m, m ≤ k → pop (2 ^ k * x + r) m = pop r m := by
      intro m
      induction m with
      | zero => intro _; rfl
      | succ m ih =>
        intro hm
        simp only [pop]
        have ht : (2 ^ k * x + r).testBit m = r.testBit m := by rw [Nat.testBit_two_pow_mul_add _ hr, if_pos (by omega)]
        rw [ih (by omega), ht]
    simpa [pop] using h k (Nat.le_refl _)
  | n + 1 => by
    rw [← Nat.add_assoc]
    simp only [pop]
    have ht : (2 ^ k * x + r).testBit (k + n) = x.testBit n := by rw [Nat.testBit_two_pow_mul_add _ hr, if_neg (by omega), show k + n - k = n by omega]
    rw [pop_shift r x k hr n, ht, Nat.add_assoc]
theorem land_mul (k a b c d : Nat) (ha : a < 2 ^ k) (hc : c < 2 ^ k) : (2 ^ k * b + a) &&& (2 ^ k * d + c) = 2 ^ k * (b &&& d) + (a &&& c) := by
  have hac : a &&& c < 2 ^ k := Nat.lt_of_le_of_lt Nat.and_le_left ha
  apply Nat.eq_of_testBit_eq
  intro i
  rw [Nat.testBit_and, Nat.testBit_two_pow_mul_add _ ha, Nat.testBit_two_pow_mul_add _ hc, Nat.testBit_two_pow_mul_add _ hac]
  split
  · rw [Nat.testBit_and]
  · rw [Nat.testBit_and]
def mk (k c : Nat) : Nat → Nat
  | 0 => 0
  | n + 1 => 2 ^ k * mk k c n + c
def f1 (n x : Nat) : Nat := (x / 2 &&& mk 4 5 n) + (x &&& mk 4 5 n)
def f2 (n x : Nat) : Nat := (f1 n x / 4 &&& mk 4 3 n) + (f1 n x &&& mk 4 3 n)
theorem f1_step (n r x : Nat) (hr : r < 16) : f1 (n + 1) (16 * x + r) = 16 * f1 n x + ((r / 2 &&& 5) + (r &&& 5)) := by
  unfold f1
  simp only [mk]
  have e1 : (16 * x + r) / 2 = 2 ^ 4 * (x / 2) + (8 * (x % 2) + r / 2) := by omega
  have hs : x % 2 < 2 := by omega
  rw [e1, show (16 * x + r) = 2 ^ 4 * x + r by omega, land_mul 4 _ _ _ _ (by omega) (by omega), land_mul 4 _ _ _ _ (by omega) (by omega)]
  have e2 : (8 * (x % 2) + r / 2) &&& 5 = r / 2 &&& 5 := by
    clear e1
    generalize x % 2 = y at *
    clear x
    revert y
    revert r
    decide
  rw [e2]
  omega
theorem f2_step (n r x : Nat) (hr : r < 16) : f2 (n + 1) (16 * x + r) = 16 * f2 n x + pop r 4 := by
  unfold f2
  rw [f1_step n r x hr]
  simp only [mk]
  generalize f1 n x = y
  have hd : (r / 2 &&& 5) + (r &&& 5) < 16 := by revert r; decide
  have hp : ∀ t, t < 4 → ((4 * t + ((r / 2 &&& 5) + (r &&& 5)) / 4) &&& 3) + (((r / 2 &&& 5) + (r &&& 5)) &&& 3) = pop r 4 := by clear hd; revert r; decide
  have hp := hp (y % 4) (by omega)
  generalize (r / 2 &&& 5) + (r &&& 5) = d at *
  have e1 : (16 * y + d) / 4 = 2 ^ 4 * (y / 4) + (4 * (y % 4) + d / 4) := by omega
  rw [e1, show (16 * y + d) = 2 ^ 4 * y + d by omega, land_mul 4 _ _ _ _ (by omega) (by omega), land_mul 4 _ _ _ _ (by omega) (by omega)]
  omega
def f3 (n y : Nat) : Nat := (y / 16 + y) &&& mk 8 15 n
theorem f3_step (n a b y : Nat) (ha : a ≤ 4) (hb : b ≤ 4) (hy : y % 16 ≤ 4) : f3 (n + 1) (256 * y + 16 * b + a) = 256 * f3 n y + (a + b) := by
  unfold f3
  simp only [mk]
  have e1 : (256 * y + 16 * b + a) / 16 + (256 * y + 16 * b + a) = 2 ^ 8 * (y / 16 + y) + (16 * (y % 16 + b) + (a + b)) := by omega
  rw [e1, land_mul 8 _ _ _ _ (by omega) (by omega)]
  have e2 : (16 * (y % 16 + b) + (a + b)) &&& 15 = a + b := by
    rw [show (15 : Nat) = 2 ^ 4 - 1 from rfl, Nat.and_two_pow_sub_one_eq_mod]; omega
  rw [e2]
theorem f2_mod (n x : Nat) : f2 n x % 16 ≤ 4 := by
  cases n with
  | zero => simp [f2, f1, mk]
  | succ n =>
    have h := f2_step n (x % 16) (x / 16) (by omega)
    rw [show 16 * (x / 16) + x % 16 = x by omega] at h
    have := pop_le (x % 16) 4
    omega
theorem f23_step (n x : Nat) : f3 (n + 1) (f2 (2 * (n + 1)) x) = 256 * f3 n (f2 (2 * n) (x / 256)) + pop x 8 := by
  have h1 := f2_step (2 * n + 1) (x % 16) (x / 16) (by omega)
  have h2 := f2_step (2 * n) (x / 16 % 16) (x / 16 / 16) (by omega)
  rw [show 16 * (x / 16) + x % 16 = x by omega] at h1
  rw [show 16 * (x / 16 / 16) + x / 16 % 16 = x / 16 by omega] at h2
  have p1 := pop_le (x % 16) 4
  have p2 := pop_le (x / 16 % 16) 4
  have h3 := f3_step n _ _ (f2 (2 * n) (x / 256)) p1 p2 (f2_mod _ _)
  rw [show 2 * (n + 1) = 2 * n + 1 + 1 by omega, h1, h2, show x / 16 / 16 = x / 256 by omega]
  rw [show 16 * (16 * f2 (2 * n) (x / 256) + pop (x / 16 % 16) 4) + pop (x % 16) 4 = 256 * f2 (2 * n) (x / 256) + 16 * pop (x / 16 % 16) 4 + pop (x % 16) 4 by omega, h3]
  have h4 := pop_shift (x % 16) (x / 16) 4 (by omega) 4
  have h5 := pop_shift (x / 16 % 16) (x / 256) 4 (by omega) 0
  rw [show 2 ^ 4 * (x / 16) + x % 16 = x by omega] at h4
  rw [show 2 ^ 4 * (x / 256) + x / 16 % 16 = x / 16 by omega] at h5
  simp only [pop] at h4 h5 ⊢
  omega
theorem pop_div (x m n : Nat) : pop x (m + n) = pop x m + pop (x / 2 ^ m) n := by
  have h1 := pop_shift (x % 2 ^ m) (x / 2 ^ m) m (Nat.mod_lt _ (Nat.two_pow_pos m)) n
  have h2 := pop_shift (x % 2 ^ m) (x / 2 ^ m) m (Nat.mod_lt _ (Nat.two_pow_pos m)) 0
  rw [Nat.div_add_mod] at h1 h2
  simp only [pop, Nat.add_zero] at h2
  omega
/-- What package bits makes of the bytes' counts. -/
theorem swar (x : Nat) : ∃ c0 c1 c2 c3 c4 c5 c6 c7 : Nat, c0 ≤ 8 ∧ c1 ≤ 8 ∧ c2 ≤ 8 ∧ c3 ≤ 8 ∧ c4 ≤ 8 ∧ c5 ≤ 8 ∧ c6 ≤ 8 ∧ c7 ≤ 8 ∧
    f3 8 (f2 16 x) = 256 * (256 * (256 * (256 * (256 * (256 * (256 * c7 + c6) + c5) + c4) + c3) + c2) + c1) + c0 ∧ pop x 64 = c0 + c1 + c2 + c3 + c4 + c5 + c6 + c7 := by
  have s0 := f23_step 7 x
  have s1 := f23_step 6 (x / 256)
  have s2 := f23_step 5 (x / 256 / 256)
  have s3 := f23_step 4 (x / 256 / 256 / 256)
  have s4 := f23_step 3 (x / 256 / 256 / 256 / 256)
  have s5 := f23_step 2 (x / 256 / 256 / 256 / 256 / 256)
  have s6 := f23_step 1 (x / 256 / 256 / 256 / 256 / 256 / 256)
  have s7 := f23_step 0 (x / 256 / 256 / 256 / 256 / 256 / 256 / 256)
  have z : f3 0 (f2 (2 * 0) (x / 256 / 256 / 256 / 256 / 256 / 256 / 256 / 256)) = 0 := by simp [f3, mk]
  have d0 := pop_div x 8 56
  have d1 := pop_div (x / 256) 8 48
  have d2 := pop_div (x / 256 / 256) 8 40
  have d3 := pop_div (x / 256 / 256 / 256) 8 32
  have d4 := pop_div (x / 256 / 256 / 256 / 256) 8 24
  have d5 := pop_div (x / 256 / 256 / 256 / 256 / 256) 8 16
  have d6 := pop_div (x / 256 / 256 / 256 / 256 / 256 / 256) 8 8
  refine ⟨pop x 8, pop (x / 256) 8, pop (x / 256 / 256) 8, pop (x / 256 / 256 / 256) 8, pop (x / 256 / 256 / 256 / 256) 8, pop (x / 256 / 256 / 256 / 256 / 256) 8, pop (x / 256 / 256 / 256 / 256 / 256 / 256) 8, pop (x / 256 / 256 / 256 / 256 / 256 / 256 / 256) 8, pop_le _ _, pop_le _ _, pop_le _ _, pop_le _ _, pop_le _ _, pop_le _ _, pop_le _ _, pop_le _ _, ?_, ?_⟩
  · simp only [Nat.reduceAdd, Nat.reduceMul] at s0 s1 s2 s3 s4 s5 s6 s7 z
    rw [s0, s1, s2, s3, s4, s5, s6, s7, z]
    omega
  · simp only [Nat.reduceAdd, Nat.reducePow] at d0 d1 d2 d3 d4 d5 d6
    omega
theorem swar_end (x : Nat) (y : Nat) (hy : y = f3 8 (f2 16 x)) (y1 y2 y3 : Nat) (h1 : y1 = y + y / 256) (h2 : y2 = y1 + y1 / 65536) (h3 : y3 = y2 + y2 / 4294967296) : y3 % 128 = pop x 64 ∧ y3 < 18446744073709551616 := by
  obtain ⟨c0, c1, c2, c3, c4, c5, c6, c7, b0, b1, b2, b3, b4, b5, b6, b7, e, p⟩ := swar x
  rw [e] at hy
  rw [p]
  clear e p x
  have q1 : y1 = 256 * (256 * (256 * (256 * (256 * (256 * (256 * c7 + (c6 + c7)) + (c5 + c6)) + (c4 + c5)) + (c3 + c4)) + (c2 + c3)) + (c1 + c2)) + (c0 + c1) := by omega
  clear h1 hy
  have q2 : y2 = 256 * (256 * (256 * (256 * (256 * (256 * (256 * c7 + (c6 + c7)) + (c5 + c6 + c7)) + (c4 + c5 + c6 + c7)) + (c3 + c4 + c5 + c6)) + (c2 + c3 + c4 + c5)) + (c1 + c2 + c3 + c4)) + (c0 + c1 + c2 + c3) := by omega
  clear h2 q1
  have q3 : y2 / 4294967296 = 256 * (256 * (256 * c7 + (c6 + c7)) + (c5 + c6 + c7)) + (c4 + c5 + c6 + c7) := by omega
  rw [q3] at h3
  omega
end Sb
end Go.Proofs.YtcbmfakjfoggaaaGreatDoor
namespace Go.Proofs.YtcbmfakjfoggaaaGreatDoor
namespace Sb
theorem tb_set (x i j : Nat) : (x ||| 2 ^ i).testBit j = (x.testBit j || decide (i = j)) := by rw [Nat.testBit_or, Nat.testBit_two_pow]
theorem tb_clear (x i j : Nat) (hi : i < 64) (hx : x < 18446744073709551616) : (x &&& (18446744073709551615 - 2 ^ i)).testBit j = (x.testBit j && !decide (i = j)) := by
  rw [Nat.testBit_and]
  by_cases hj : j < 64
  · have h := Nat.testBit_two_pow_sub_succ (x := 2 ^ i) (n := 64) (Nat.pow_lt_pow_right (by omega) hi) j
    rw [show (2 ^ 64 - (2 ^ i + 1) : Nat) = 18446744073709551615 - 2 ^ i by omega] at h
    rw [h, Nat.testBit_two_pow]
    simp [hj]
  · have h : x.testBit j = false := Nat.testBit_lt_two_pow (Nat.lt_of_lt_of_le hx (by rw [show (18446744073709551616 : Nat) = 2 ^ 64 from rfl]; exact Nat.pow_le_pow_right (by omega) (by omega)))
    simp [h]
theorem pop_set (x i : Nat) (hi : x.testBit i = false) : ∀ n, pop (x ||| 2 ^ i) n = pop x n + (if i < n then 1 else 0)
  | 0 => by simp [pop]
  | n + 1 => by
    simp only [pop]
    rw [pop_set x i hi n, tb_set]
    by_cases h : i = n
    · subst h; simp [hi]
    · simp only [h, decide_false, Bool.or_false]
      have h3 : i < n + 1 ↔ i < n := by omega
      simp only [h3]
      omega
theorem pop_of_zero : ∀ n, pop 0 n = 0
  | 0 => rfl
  | n + 1 => by simp [pop, pop_of_zero n]
theorem pop_lt_pow {x m : Nat} (hx : x < 2 ^ m) : ∀ n, m ≤ n → pop x n = pop x m := by
  intro n hn
  obtain ⟨d, rfl⟩ := Nat.exists_eq_add_of_le hn
  rw [pop_div, Nat.div_eq_of_lt hx, pop_of_zero]; omega
/-- The first bit that is not set. -/
def ff (x : Nat) : Nat := Go.Lib.ctz 64 (18446744073709551615 - x)
theorem ff_spec {x m : Nat} (hx : x < 2 ^ m) (hm : m ≤ 64) (hp : pop x m < m) : ff x < m ∧ x.testBit (ff x) = false ∧ ∀ j, j < ff x → x.testBit j = true := by
  have hx64 : x < 2 ^ 64 := Nat.lt_of_lt_of_le hx (Nat.pow_le_pow_right (by omega) hm)
  have htb : ∀ j, j < 64 → (18446744073709551615 - x).testBit j = !x.testBit j := by
    intro j hj
    have h := Nat.testBit_two_pow_sub_succ (x := x) (n := 64) hx64 j
    rw [show (2 ^ 64 - (x + 1) : Nat) = 18446744073709551615 - x by omega] at h
    rw [h]; simp [hj]
  have hne : 18446744073709551615 - x ≠ 0 := by
    intro h0
    have hall : ∀ j, j < m → x.testBit j = true := by
      intro j hj
      have := htb j (by omega)
      rw [h0, Nat.zero_testBit] at this
      simpa using this.symm
    have : ∀ n, n ≤ m → pop x n = n := by
      intro n
      induction n with
      | zero => intro _; rfl
      | succ n ih => intro hn; simp only [pop]; rw [ih (by omega), hall n (by omega)]; simp
    have := this m (Nat.le_refl _)
    omega
  obtain ⟨q, hq, hk⟩ := Go.Lib.ctzFrom_spec 64 (18446744073709551615 - x) (by omega) (by omega)
  have e : ff x = Go.Lib.ctzFrom 64 (18446744073709551615 - x) := by simp [ff, Go.Lib.ctz, hne]
  rw [← e] at hq hk
  have h1 : x.testBit (ff x) = false := by
    have := htb (ff x) hk
    rw [hq, Nat.testBit_two_pow_mul] at this
    simpa [Nat.testBit_zero] using this
  have h2 : ∀ j, j < ff x → x.testBit j = true := by
    intro j hj
    have := htb j (by omega)
    rw [hq, Nat.testBit_two_pow_mul, show decide (j ≥ ff x) = false by simp; omega] at this
    simpa using this.symm
  refine ⟨?_, h1, h2⟩
  rcases Nat.lt_or_ge (ff x) m with h | h
  · exact h
  · exfalso
    have : ∀ n, n ≤ m → pop x n = n := by
      intro n
      induction n with
      | zero => intro _; rfl
      | succ n ih => intro hn; simp only [pop]; rw [ih (by omega), h2 n (by omega)]; simp
    have := this m (Nat.le_refl _)
    omega
theorem set_lt {x i m : Nat} (hx : x < 2 ^ m) (hi : i < m) : x ||| 2 ^ i < 2 ^ m := Nat.or_lt_two_pow hx (Nat.pow_lt_pow_right (by omega) hi)
theorem bit_div (x i : Nat) : x / 2 ^ i % 2 = if x.testBit i = true then 1 else 0 := by
  rw [Nat.testBit_eq_decide_div_mod_eq]
  simp only [decide_eq_true_eq]
  split <;> omega
end Sb
end Go.Proofs.YtcbmfakjfoggaaaGreatDoor
namespace Go.Proofs.YtcbmfakjfoggaaaGreatDoor
namespace Sb
/-- A slab: its node, where its page lies, which of its objects are taken. -/
structure Sl where
  nd : Nat
  at_ : Int
  bm : Nat
instance : Inhabited Sl := ⟨⟨0, 0, 0⟩⟩
/-- Of the first i slabs the fullest one of a node that has a free object: its number, how many are taken. -/
def bst (m nd : Nat) (ss : List Sl) : Nat → Option Nat × Int
  | 0 => (none, -1)
  | i + 1 => if (ss.getD i default).nd = nd ∧ pop (ss.getD i default).bm m < m ∧ (bst m nd ss i).2 < (pop (ss.getD i default).bm m : Int) then (some i, (pop (ss.getD i default).bm m : Int)) else bst m nd ss i
theorem getD_at {α : Type} {l : List α} {i : Nat} {x d : α} (h : l[i]? = some x) : l.getD i d = x := by simp [List.getD_eq_getElem?_getD, h]
theorem bst_some {m nd : Nat} {ss : List Sl} {j : Nat} : ∀ {i : Nat}, (bst m nd ss i).1 = some j → j < i ∧ (ss.getD j default).nd = nd ∧ pop (ss.getD j default).bm m < m
  | 0, h => by simp [bst] at h
  | i + 1, h => by
    simp only [bst] at h
    split at h
    · rename_i hh
      simp only [Option.some.injEq] at h
      subst h
      exact ⟨by omega, hh.1, hh.2.1⟩
    · obtain ⟨h1, h2⟩ := bst_some h
      exact ⟨by omega, h2⟩
theorem bst_low (m nd : Nat) (ss : List Sl) : ∀ i, ((bst m nd ss i).1 = none ∧ (bst m nd ss i).2 = -1) ∨ (∃ j, (bst m nd ss i).1 = some j ∧ 0 ≤ (bst m nd ss i).2)
  | 0 => Or.inl ⟨rfl, rfl⟩
  | i + 1 => by
    simp only [bst]
    split
    · exact Or.inr ⟨i, rfl, by simp⟩
    · exact bst_low m nd ss i
theorem bst_hi (m nd : Nat) (ss : List Sl) : ∀ i, -1 ≤ (bst m nd ss i).2 ∧ (bst m nd ss i).2 ≤ m
  | 0 => by simp [bst]
  | i + 1 => by
    simp only [bst]
    split
    · rename_i hh; simp only; omega
    · exact bst_hi m nd ss i
theorem bst_none {m nd : Nat} {ss : List Sl} : ∀ {i : Nat}, (bst m nd ss i).1 = none → ∀ j, j < i → (ss.getD j default).nd = nd → ¬ pop (ss.getD j default).bm m < m
  | 0, _, j, hj, _ => by omega
  | i + 1, h, j, hj, hn => by
    simp only [bst] at h
    split at h
    · cases h
    · rename_i hh
      by_cases e : j = i
      · subst e
        intro hp
        rcases bst_low m nd ss j with ⟨_, h2⟩ | ⟨j', h1, _⟩
        · exact hh ⟨hn, hp, by rw [h2]; omega⟩
        · rw [h] at h1; cases h1
      · exact bst_none h j (by omega) hn
/-- A slab ahead of a place. -/
def lt (s : Sl) (nd : Nat) (a : Int) : Prop := s.nd < nd ∨ (s.nd = nd ∧ s.at_ < a)
instance (s : Sl) (nd : Nat) (a : Int) : Decidable (lt s nd a) := by unfold lt; infer_instance
def Sorted (ss : List Sl) : Prop := ss.Pairwise fun a b => lt a b.nd b.at_
/-- Where a slab belongs. -/
def Pos (ss : List Sl) (nd : Nat) (a : Int) (k : Nat) : Prop := k ≤ ss.length ∧ (∀ t s, t < k → ss[t]? = some s → lt s nd a) ∧ ∀ t s, k ≤ t → ss[t]? = some s → ¬ lt s nd a
theorem lt_trans {s t : Sl} {nd : Nat} {a : Int} (h : lt s t.nd t.at_) (h' : lt t nd a) : lt s nd a := by
  unfold lt at *; omega
theorem sorted_at {ss : List Sl} (h : Sorted ss) {i j : Nat} {s t : Sl} (hi : ss[i]? = some s) (hj : ss[j]? = some t) (hij : i < j) : lt s t.nd t.at_ := by
  obtain ⟨hi', rfl⟩ := List.getElem?_eq_some_iff.mp hi
  obtain ⟨hj', rfl⟩ := List.getElem?_eq_some_iff.mp hj
  exact List.pairwise_iff_getElem.mp h i j hi' hj' hij
/-- One put among others. -/
def ins {α : Type} (l : List α) (k : Nat) (x : α) : List α := l.take k ++ x :: l.drop k
theorem ins_length {α : Type} (l : List α) (k : Nat) (x : α) : (ins l k x).length = l.length + 1 := by simp [ins]; omega
theorem ins_map {α β : Type} (f : α → β) (l : List α) (k : Nat) (x : α) : (ins l k x).map f = ins (l.map f) k (f x) := by simp [ins, List.map_take, List.map_drop]
theorem ins_get {α : Type} {l : List α} {k : Nat} (x : α) (hk : k ≤ l.length) (j : Nat) : (ins l k x)[j]? = if j < k then l[j]? else if j = k then some x else l[j - 1]? := by
  unfold ins
  have hl : (l.take k).length = k := by simp; omega
  by_cases h1 : j < k
  · rw [if_pos h1, List.getElem?_append_left (by omega), List.getElem?_take_of_lt h1]
  · rw [if_neg h1, List.getElem?_append_right (by omega), hl]
    by_cases h2 : j = k
    · subst h2; simp
    · rw [if_neg h2]
      obtain ⟨d, rfl⟩ : ∃ d, j = k + 1 + d := ⟨j - k - 1, by omega⟩
      rw [show k + 1 + d - k = d + 1 by omega, List.getElem?_cons_succ, List.getElem?_drop]
      congr 1; omega
theorem ins_mem {α : Type} {l : List α} {k : Nat} {x y : α} : y ∈ ins l k x ↔ y = x ∨ y ∈ l := by
  unfold ins
  simp only [List.mem_append, List.mem_cons]
  constructor
  · rintro (h | h | h)
    · exact Or.inr (List.mem_of_mem_take h)
    · exact Or.inl h
    · exact Or.inr (List.mem_of_mem_drop h)
  · rintro (h | h)
    · exact Or.inr (Or.inl h)
    · rw [← List.take_append_drop k l, List.mem_append] at h
      rcases h with h | h
      · exact Or.inl h
      · exact Or.inr (Or.inr h)
theorem sorted_ins {ss : List Sl} (hs : Sorted ss) {x : Sl} {k : Nat} (hp : Pos ss x.nd x.at_ k) (hne : ∀ s ∈ ss, s.nd = x.nd → s.at_ ≠ x.at_) : Sorted (ins ss k x) := by
  unfold Sorted ins
  rw [List.pairwise_append, List.pairwise_cons]
  refine ⟨hs.sublist (List.take_sublist _ _), ⟨fun y hy => ?_, hs.sublist (List.drop_sublist _ _)⟩, fun y hy z hz => ?_⟩
  · obtain ⟨t, ht⟩ := List.mem_iff_getElem?.mp hy
    rw [List.getElem?_drop] at ht
    have h1 := hp.2.2 (k + t) y (by omega) ht
    have h2 := hne y (List.mem_of_mem_drop hy)
    unfold lt at *; omega
  · obtain ⟨t, ht⟩ := List.mem_iff_getElem?.mp hy
    have htk : t < k := by
      obtain ⟨h, _⟩ := List.getElem?_eq_some_iff.mp ht
      simp at h; omega
    rw [List.getElem?_take_of_lt htk] at ht
    have h1 := hp.2.1 t y htk ht
    rcases List.mem_cons.mp hz with rfl | hz
    · exact h1
    · obtain ⟨t2, ht2⟩ := List.mem_iff_getElem?.mp hz
      rw [List.getElem?_drop] at ht2
      exact sorted_at hs ht ht2 (by omega)
theorem sorted_set {ss : List Sl} (hs : Sorted ss) {i : Nat} {s : Sl} (hi : ss[i]? = some s) (b : Nat) : Sorted (ss.set i { s with bm := b }) := by
  unfold Sorted
  rw [List.pairwise_iff_getElem]
  intro p q hp hq hpq
  simp only [List.length_set] at hp hq
  have hi' : i < ss.length := (List.getElem?_eq_some_iff.mp hi).1
  have hv : ss[i] = s := (List.getElem?_eq_some_iff.mp hi).2
  have h := List.pairwise_iff_getElem.mp hs p q hp hq hpq
  rw [List.getElem_set, List.getElem_set]
  split
  · rename_i e
    subst e
    rw [if_neg (by omega)]
    rw [hv] at h; exact h
  · split
    · rename_i e
      subst e
      rw [hv] at h; exact h
    · exact h
theorem sorted_uniq {ss : List Sl} (hs : Sorted ss) {i j : Nat} {s t : Sl} (hi : ss[i]? = some s) (hj : ss[j]? = some t) (h1 : s.nd = t.nd) (h2 : s.at_ = t.at_) : i = j := by
  rcases Nat.lt_trichotomy i j with h | h | h
  · have := sorted_at hs hi hj h; unfold lt at this; omega
  · exact h
  · have := sorted_at hs hj hi h; unfold lt at this; omega
theorem sorted_erase {ss : List Sl} (hs : Sorted ss) (i : Nat) : Sorted (ss.eraseIdx i) := hs.sublist (List.eraseIdx_sublist ..)
/-- An object that is taken. -/
def GiveAt (m : Nat) (sz : Int) (ss : List Sl) (o : Int × Int) (j i : Nat) : Prop := ∃ s, ss[j]? = some s ∧ i < m ∧ s.bm.testBit i = true ∧ o.1 = s.nd ∧ o.2 = s.at_ * 64 + i * sz
end Sb
end Go.Proofs.YtcbmfakjfoggaaaGreatDoor
