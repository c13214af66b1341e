/- The contracts of errors.Is at a target of errors.New's make: at that very error, at another one of that make, at an *api.Fault that wraps either · The contracts of package plain's Code, and of the law's own helper over it: at nil, at each of package api's errors · The document's answer's own FreePages and NewBuddy; the law's 'asBuddy' · A config in memory, as a statement's argument has it; the law's WideConfig, the document's answer's ConfigError, by contract · The library's IndexFunc and ContainsFunc at ints, at lists of ints, at blocks, whatever the predicate, by contract. -/
import Derived.Test.YtcbmfakjfoggaaaGreatDoorG00
import Derived.LaidEql
import Derived.Stop.Asserts
import Derived.RowKitTokens
import Derived.Test.YtcbmfakjfoggaaaGreatDoorG07
import Derived.Test.YtcbmfakjfoggaaaGreatDoorG05
import Derived.Test.YtcbmfakjfoggaaaGreatDoorG02
namespace Go.Proofs.YtcbmfakjfoggaaaGreatDoor
open Go.RowKit Go.Extern.Stop Go.Stop Go.Extern

theorem is_typeOf (v : Value) (w : World) : (Extern.ReflectliteType.typeOf #[.iface 424 v]).run Tryz.prog w = .ok (.iface 342 (.agg #[.pointer (some ⟨12, 424, none⟩)])) w := by kernel_rfl
/-- The model's entry for (rtype).Comparable, and what it answers of *errors.errorString. -/
theorem cmp_entry : ∃ f : Array Value → Sem Value, Extern.find Tryz.f331 = some f ∧ ∀ w, (f #[.agg #[.pointer (some ⟨12, 424, none⟩)]]).run Tryz.prog w = .ok (.bool true) w :=
  ⟨(Extern.find Tryz.f331).getD (fun _ => pure .nilIface), by kernel_rfl, fun _ => by kernel_rfl⟩
theorem is_methodComparable (v : Value) (w : World) : (Go.method 554 342 v "Comparable").run Tryz.prog w = .ok (331, v) w := by kernel_rfl
theorem is_comp : (Tryz.prog.info? 424).map (·.comparable) = some true := by kernel_rfl
theorem is_size : (Tryz.prog.info? 442).map (·.size) = some 1 := by kernel_rfl
theorem is_noIsE (v : Value) (xT : TypeId) (w : World) : (Instr.typeAssert (.iface 424 v) xT 381 true).run Tryz.prog w = .ok (.tuple #[.nilIface, .bool false]) w := run_typeAssert_lacksB Tryz.underlying381 (by kernel_rfl) (by kernel_rfl) v xT w
theorem is_noUnwrapE (v : Value) (xT : TypeId) (w : World) : (Instr.typeAssert (.iface 424 v) xT 349 true).run Tryz.prog w = .ok (.tuple #[.nilIface, .bool false]) w := run_typeAssert_lacksB Tryz.underlying349 (by kernel_rfl) (by kernel_rfl) v xT w
theorem is_noUnwrapsE (v : Value) (xT : TypeId) (w : World) : (Instr.typeAssert (.iface 424 v) xT 350 true).run Tryz.prog w = .ok (.tuple #[.nilIface, .bool false]) w := run_typeAssert_lacksB Tryz.underlying350 (by kernel_rfl) (by kernel_rfl) v xT w
theorem is_same (a : Addr) (w : World) :
    Calls Tryz.prog 150 #[.iface 424 (.pointer (some a)), .iface 424 (.pointer (some a))] w fun e w' => e = .returned (.bool true) ∧ w' = w := by
  obtain ⟨i, hi, hcmp⟩ := Option.map_eq_some_iff.1 is_comp
  obtain ⟨j, hj, hjs⟩ := Option.map_eq_some_iff.1 is_size
  have h8 := @run_callFunc_extern Tryz.prog 205 _ Extern.ReflectliteType.typeOf Tryz.func205 (by kernel_rfl) (by kernel_rfl) (by kernel_rfl) (by kernel_rfl)
  obtain ⟨cmp, hcmpE, cT⟩ := cmp_entry
  have h32 := @run_callFunc_extern Tryz.prog 331 _ cmp Tryz.func331 (by kernel_rfl) (by kernel_rfl) (by kernel_rfl) hcmpE
  clear hcmpE
  have tT := is_typeOf
  have mR := is_methodComparable
  have heq := run_eql_iface_ptr_same (P := Tryz.prog) w a Tryz.underlying29 Tryz.underlying424 hi hcmp hj
  go_enter Tryz.func150, Tryz.ntmps150
  go_wp2
  refine wp_loop_rounds 1 ?_
  rw [rounds_succ]
  go_wp2
  go_ret
  exact ⟨rfl, rfl⟩

theorem is_other (a b : Addr) (ca cb : Array Value) (ta tb : TypeId) (w : World) (hne : a ≠ b) (ha : w.heap[a.block]? = some (.cells ca ta (0, 0))) (hb : w.heap[b.block]? = some (.cells cb tb (0, 0))) :
    Calls Tryz.prog 150 #[.iface 424 (.pointer (some a)), .iface 424 (.pointer (some b))] w fun e w' => e = .returned (.bool false) ∧ w' = w := by
  obtain ⟨i, hi, hcmp⟩ := Option.map_eq_some_iff.1 is_comp
  obtain ⟨j, hj, hjs⟩ := Option.map_eq_some_iff.1 is_size
  have h8 := @run_callFunc_extern Tryz.prog 205 _ Extern.ReflectliteType.typeOf Tryz.func205 (by kernel_rfl) (by kernel_rfl) (by kernel_rfl) (by kernel_rfl)
  obtain ⟨cmp, hcmpE, cT⟩ := cmp_entry
  have h32 := @run_callFunc_extern Tryz.prog 331 _ cmp Tryz.func331 (by kernel_rfl) (by kernel_rfl) (by kernel_rfl) hcmpE
  clear hcmpE
  have tT := is_typeOf
  have mR := is_methodComparable
  have nE := is_noIsE
  have uE := is_noUnwrapE
  have vE := is_noUnwrapsE
  have heq := run_eql_iface_ptr_other (P := Tryz.prog) w Tryz.underlying29 Tryz.underlying424 hi hcmp hj (by rw [hjs]; decide) hne ha hb
  go_enter Tryz.func150, Tryz.ntmps150
  go_wp2
  refine wp_loop_rounds 1 ?_
  rw [rounds_succ]
  go_wp2
  go_ret
  exact ⟨rfl, rfl⟩

end Go.Proofs.YtcbmfakjfoggaaaGreatDoor
namespace Go.Proofs.YtcbmfakjfoggaaaGreatDoor
open Go.RowKit

/-- The list of the ten errors, as it lies in memory. -/
abbrev tenO (e : Nat → Addr) : Obj := .cells #[Fr.errV (e 0), Fr.errV (e 1), Fr.errV (e 2), Fr.errV (e 3), Fr.errV (e 4), Fr.errV (e 5), Fr.errV (e 6), Fr.errV (e 7), Fr.errV (e 8), Fr.errV (e 9)] 29
theorem ten_cell (w : World) (e : Nat → Addr) (n : Nat) (hn : n < 10) : (w.alloc (tenO e)).cell? ⟨w.heap.size, n, none⟩ = some (.iface 424 (.pointer (some (e n)))) := by
  match n, hn with
  | 0, _ => simp
  | 1, _ => simp
  | 2, _ => simp
  | 3, _ => simp
  | 4, _ => simp
  | 5, _ => simp
  | 6, _ => simp
  | 7, _ => simp
  | 8, _ => simp
  | 9, _ => simp
  | k + 10, h => omega

set_option maxHeartbeats 1000000 in
theorem code_sent (i : Nat) (hi : i < 10) (w : World) (e : Nat → Addr) (he : Errs w e) :
    Calls Tryz.prog 78 #[.iface 424 (.pointer (some (e i)))] w fun ev w' => ev = .returned (.tuple #[.int .i64 (i + 1), .int .i64 (-1)]) ∧ Below w.heap.size w w' := by
  go_enter Tryz.func78, Tryz.ntmps78
  go_wp2_with fail
  refine (as_miss _ _ _ (he.alloc _).typ).mono ?_
  rintro ev w1 ⟨rfl, hw1⟩
  have hb : Below w.heap.size w w1 := by rw [hw1]; exact Fr.ballo (Fr.ballo (Fr.ballo (Fr.ballo (Below.refl _ _) _) _) _) _
  clear hw1
  have h1 := he.below hb
  have v0 := h1.v0
  have v1 := h1.v1
  have v2 := h1.v2
  have v3 := h1.v3
  have v4 := h1.v4
  have v5 := h1.v5
  have v6 := h1.v6
  have v7 := h1.v7
  have v8 := h1.v8
  have v9 := h1.v9
  clear he
  go_wp2_with fail
  have hcell := ten_cell w1 e
  have h2 := h1.alloc (tenO e)
  have hb2 := Fr.ballo hb (tenO e)
  clear h1 hb v0 v1 v2 v3 v4 v5 v6 v7 v8 v9
  generalize w1.alloc (tenO e) = W2 at *
  generalize w1.heap.size = B at *
  have H2 := hide h2
  have HB := hide hb2
  clear h2 hb2
  have HC := hide hcell
  clear hcell
  go_loop [3, 28] (fun at_ k => ∃ n : Nat, n ≤ i ∧ k = .int .i64 n ∧ at_ = .int .i64 (-1)) (fun _ k => 10 - (intOf k).toNat)
  case atStart => exact ⟨0, Nat.zero_le _, rfl, rfl⟩
  case round =>
    obtain ⟨n, hn, rfl, rfl⟩ := hrel
    have hc := (unhide HC) n (by omega)
    by_cases hni : n = i
    · subst hni
      go_wp2_with (go_at_call 150; refine (is_same _ _).mono ?_; rintro ev w' ⟨rfl, rfl⟩)
      go_ret2
      exact ⟨rfl, unhide HB⟩
    · obtain ⟨ca, ta, hba⟩ := (unhide H2).blk i hi
      obtain ⟨cb, tb, hbb⟩ := (unhide H2).blk n (by omega)
      have HI := hide (is_other (e i) (e n) ca cb ta tb W2 (fun h => hni ((unhide H2).inj i n hi (by omega) h).symm) hba hbb)
      have hlt : n < i := by omega
      clear hba hbb hni
      go_wp2_with (go_at_call 150; refine (unhide HI).mono ?_; rintro ev w' ⟨rfl, rfl⟩)
      go_round
      case rel => exact ⟨n + 1, by omega, by go_num, rfl⟩
      case measure => simp [intOf]; omega

/-- The law's helper at an error of the ten: it holds at that error's own number alone. -/
theorem coded_sent (i : Nat) (hi : i < 10) (c : Int) (hc : c = i + 1) (w : World) (e : Nat → Addr) (he : Errs w e) :
    Calls Tryz.prog 16 #[.iface 424 (.pointer (some (e i))), .int .i64 c] w fun ev w' => ev = .returned (.bool true) ∧ Below w.heap.size w w' := by
  subst hc
  go_enter Tryz.func16, Tryz.ntmps16
  go_wp2_with (go_at_call 78; refine (code_sent i hi _ e he).mono ?_; rintro ev w' ⟨rfl, hb⟩)
  go_ret
  exact ⟨rfl, by assumption⟩
end Go.Proofs.YtcbmfakjfoggaaaGreatDoor
namespace Go.Proofs.YtcbmfakjfoggaaaGreatDoor
open Go.RowKit
attribute [local go_sem ↓] Go.wp_at_zero Go.wp_at_succ
namespace Bd
open Fr
set_option maxHeartbeats 4000000 in
theorem rnew_ok (N : Int) (w : World) (h1 : 1 ≤ N) (h2 : N ≤ 256) :
    Calls Tryz.prog 146 #[.int .i64 N] w fun ev w' => ∃ b, ev = .returned (ptr b) ∧ RB w' b N (cv 0 N) [] ∧ w.heap.size ≤ b ∧ Below w.heap.size w w' := by
  have HC := hide (fun w => rcover_ok 0 N w (by omega) (by omega) (by omega))
  generalize cv 0 N = F at *
  unfold ptr
  go_enter Tryz.func146, Tryz.ntmps146
  go_wp2_with fail
  refine (unhide HC _).mono ?_
  rintro ev w2 ⟨v, rfl, hrow, b2, hnil⟩
  have hl : ∀ b, b < w.heap.size ∨ w2.heap.size ≤ b → RL w2 b v F := by
    intro b hb
    by_cases hF : F = []
    · exact Or.inl ⟨hF, hnil hF⟩
    · obtain ⟨g, cap, hv, hg, hcap, hcap2, hr⟩ := rowt_of hrow hF
      have := hr.lt
      exact Or.inr ⟨g, cap, hv, by omega, hcap, hcap2, hF, hr⟩
  obtain ⟨p, m, c, rfl, _⟩ := rl_slice (hl w2.heap.size (Or.inr (Nat.le_refl _)))
  have hs := b2.size
  clear HC
  go_wp2_with fail
  go_ret
  have q0 := World.cell?_alloc_new w2 #[.int .i64 N, .slice p m c, .slice none 0 0] 333 0
  have q1 := World.cell?_alloc_new w2 #[.int .i64 N, .slice p m c, .slice none 0 0] 333 1
  have q2 := World.cell?_alloc_new w2 #[.int .i64 N, .slice p m c, .slice none 0 0] 333 2
  exact ⟨w2.heap.size, rfl, ⟨q0, ⟨_, q1, (hl _ (Or.inr (Nat.le_refl _))).b (ballo (Below.refl _ _) _)⟩, ⟨_, q2, Or.inl ⟨rfl, rfl⟩⟩, by simp, by simp, by simp, tag_new _ _ _⟩, hs, ballo b2 _⟩

end Bd
end Go.Proofs.YtcbmfakjfoggaaaGreatDoor
namespace Go.Proofs.YtcbmfakjfoggaaaGreatDoor
open Go.RowKit
namespace Zn
open Fr Bd
/-- Numbers that lie in a slice. -/
def Nums (w : World) (p : Option Addr) (n : Nat) (z : Nat → Int) : Prop := ∀ i, i < n → ∃ blk off, p = some ⟨blk, off, none⟩ ∧ blk < w.heap.size ∧ w.cell? ⟨blk, off + i, none⟩ = some (.int .i64 (z i))
theorem Nums.b {w w' : World} {p : Option Addr} {n : Nat} {z : Nat → Int} (h : Nums w p n z) (hb : Below w.heap.size w w') : Nums w' p n z := fun i hi => by
  obtain ⟨blk, off, hp, hl, hc⟩ := h i hi
  exact ⟨blk, off, hp, Nat.lt_of_lt_of_le hl hb.size, (hb.cell (p := ⟨blk, off + i, none⟩) hl).trans hc⟩
/-- Lists of numbers that lie in a slice: the i-th one is M i long. -/
def Rows2 (w : World) (q : Option Addr) (m : Nat) (M : Nat → Nat) (D : Nat → Nat → Int) : Prop := ∀ i, i < m → ∃ blk off pr c, q = some ⟨blk, off, none⟩ ∧ blk < w.heap.size ∧ w.cell? ⟨blk, off + i, none⟩ = some (.slice pr (M i) c) ∧ Nums w pr (M i) (D i) ∧ (pr = none → c = 0)
theorem Rows2.b {w w' : World} {q : Option Addr} {m : Nat} {M : Nat → Nat} {D : Nat → Nat → Int} (h : Rows2 w q m M D) (hb : Below w.heap.size w w') : Rows2 w' q m M D := fun i hi => by
  obtain ⟨blk, off, pr, c, hp, hl, hc, hn, h0⟩ := h i hi
  exact ⟨blk, off, pr, c, hp, Nat.lt_of_lt_of_le hl hb.size, (hb.cell (p := ⟨blk, off + i, none⟩) hl).trans hc, hn.b hb, h0⟩

/-- A config: the lists' lengths and numbers, and the marks. -/
structure Cf where
  n : Nat
  P : Nat → Int
  m : Nat
  M : Nat → Nat
  D : Nat → Nat → Int
  mn : Int
  lw : Int
  hi : Int
def Cf.wide (c : Cf) : Prop := 20 < c.n ∨ 20 < c.m ∨ ∃ i, i < c.m ∧ 20 < c.M i
def Cf.bad2 (c : Cf) : Prop := c.n < 1 ∨ 4 < c.n ∨ (∃ i, i < c.n ∧ (c.P i < 1 ∨ 256 < c.P i)) ∨ (∃ i, i < c.m ∧ ∃ k, k < c.M i ∧ (c.D i k < 0 ∨ 1000 < c.D i k)) ∨ c.mn < 0 ∨ c.lw < c.mn ∨ c.hi < c.lw
def Cf.shp (c : Cf) : Prop := c.m = c.n ∧ ∀ i, i < c.m → c.M i = c.n
def Cf.bad3 (c : Cf) : Prop := ∃ i, i < c.n ∧ ∃ k, k < c.n ∧ i ≠ k ∧ c.D i k ≤ c.D i i
/-- The number of a config's error. -/
def Cf.is (c : Cf) (e : Int) : Prop := (e = 2 ∧ c.bad2) ∨ (e = 3 ∧ ¬ c.bad2 ∧ (¬ c.shp ∨ c.bad3)) ∨ (e = 0 ∧ ¬ c.bad2 ∧ c.shp ∧ ¬ c.bad3)
theorem Cf.is_one {c : Cf} {e f : Int} (h : c.is e) (k : c.is f) : e = f := by
  unfold Cf.is at h k
  rcases h with ⟨h1, h2⟩ | ⟨h1, h2, h3⟩ | ⟨h1, h2, h3, h4⟩ <;> rcases k with ⟨k1, k2⟩ | ⟨k1, k2, k3⟩ | ⟨k1, k2, k3, k4⟩
  · omega
  · exact absurd h2 k2
  · exact absurd h2 k2
  · exact absurd k2 h2
  · omega
  · rcases h3 with h3 | h3
    · exact absurd k3 h3
    · exact absurd h3 k4
  · exact absurd k2 h2
  · rcases k3 with k3 | k3
    · exact absurd h3 k3
    · exact absurd k3 h4
  · omega
/-- A config's value whose lists lie in memory. -/
structure At (w : World) (c : Cf) (p q : Option Addr) : Prop where
  ps : Nums w p c.n c.P
  rs : Rows2 w q c.m c.M c.D
theorem At.b {w w' : World} {c : Cf} {p q : Option Addr} (h : At w c p q) (hb : Below w.heap.size w w') : At w' c p q := ⟨h.ps.b hb, h.rs.b hb⟩
def cfV (c : Cf) (p : Option Addr) (pc : Nat) (q : Option Addr) (qc : Nat) : Value := .agg #[.slice p c.n pc, .slice q c.m qc, .int .i64 c.mn, .int .i64 c.lw, .int .i64 c.hi]

/-- A config's cells in a box. -/
structure Box (w : World) (b : Nat) (c : Cf) (p : Option Addr) (pc : Nat) (q : Option Addr) (qc : Nat) : Prop where
  c0 : w.cell? ⟨b, 0, none⟩ = some (.slice p c.n pc)
  c1 : w.cell? ⟨b, 1, none⟩ = some (.slice q c.m qc)
  c2 : w.cell? ⟨b, 2, none⟩ = some (.int .i64 c.mn)
  c3 : w.cell? ⟨b, 3, none⟩ = some (.int .i64 c.lw)
  c4 : w.cell? ⟨b, 4, none⟩ = some (.int .i64 c.hi)
  lt : b < w.heap.size
theorem Box.b {w w' : World} {b : Nat} {c : Cf} {p q : Option Addr} {pc qc : Nat} (h : Box w b c p pc q qc) (hb : Below w.heap.size w w') : Box w' b c p pc q qc :=
  ⟨(hb.cell (p := ⟨b, 0, none⟩) h.lt).trans h.c0, (hb.cell (p := ⟨b, 1, none⟩) h.lt).trans h.c1, (hb.cell (p := ⟨b, 2, none⟩) h.lt).trans h.c2, (hb.cell (p := ⟨b, 3, none⟩) h.lt).trans h.c3, (hb.cell (p := ⟨b, 4, none⟩) h.lt).trans h.c4, Nat.lt_of_lt_of_le h.lt hb.size⟩
theorem box_new (w : World) (c : Cf) (p q : Option Addr) (pc qc t : Nat) : Box (w.alloc (.cells #[.slice p c.n pc, .slice q c.m qc, .int .i64 c.mn, .int .i64 c.lw, .int .i64 c.hi] t)) w.heap.size c p pc q qc :=
  ⟨World.cell?_alloc_new w _ t 0, World.cell?_alloc_new w _ t 1, World.cell?_alloc_new w _ t 2, World.cell?_alloc_new w _ t 3, World.cell?_alloc_new w _ t 4, by simp⟩

end Zn
end Go.Proofs.YtcbmfakjfoggaaaGreatDoor
namespace Go.Proofs.YtcbmfakjfoggaaaGreatDoor
open Go.RowKit
namespace Dz
open Fr Bd Zn
/-- The first one that a predicate holds of, or -1. -/
def Fst (p : Nat → Bool) (n : Nat) (r : Int) : Prop := (r = -1 ∧ ∀ j, j < n → p j = false) ∨ ∃ i : Nat, i < n ∧ r = i ∧ p i = true ∧ ∀ j, j < i → p j = false
theorem Fst.has {p : Nat → Bool} {n : Nat} {r : Int} (h : Fst p n r) : decide (0 ≤ r) = (List.range n).any p := by
  rcases h with ⟨rfl, h⟩ | ⟨i, hi, rfl, hp, _⟩
  · have : (List.range n).any p = false := by simp; exact h
    rw [this]; rfl
  · have : (List.range n).any p = true := by simp; exact ⟨i, hi, hp⟩
    rw [this]; simp
theorem Fst.ge {p : Nat → Bool} {n : Nat} {r : Int} (h : Fst p n r) : -1 ≤ r ∧ r ≤ n := by
  rcases h with ⟨rfl, h⟩ | ⟨i, hi, rfl, hp, _⟩ <;> omega
theorem next_no {p : Nat → Bool} {i : Nat} (h : ∀ j, j < i → p j = false) (hi : p i = false) : ∀ j, j < i + 1 → p j = false := fun j hj => by
  by_cases e : j = i
  · subst e; exact hi
  · exact h j (by omega)
set_option maxHeartbeats 1000000 in
theorem idx_ints (q : Option Addr) (n c : Nat) (z : Nat → Int) (g : Nat) (lb : Array Value) (p : Nat → Bool) (eg : ∀ args w, (callFunc g args).run Tryz.prog w = .ok (.enter g args) w) (w : World)
    (hz : Nums w q n z) (hn : n ≤ 1000) (hp : ∀ i, i < n → ∀ W, Below w.heap.size w W → Calls Tryz.prog g (#[.int .i64 (z i)] ++ lb) W fun ev W' => ev = .returned (.bool (p i)) ∧ Below w.heap.size w W') :
    Calls Tryz.prog 227 #[.slice q n c, .func (.func g) #[] lb] w fun ev w' => ∃ r : Int, ev = .returned (.int .i64 r) ∧ Fst p n r ∧ Below w.heap.size w w' := by
  have HP := hide hp
  clear hp
  go_enter Tryz.func227, Tryz.ntmps227
  go_wp2
  go_loopw [8] (fun s wr => ∃ i : Nat, s = .int .i64 i ∧ i ≤ n ∧ Below w.heap.size w wr ∧ Hid (∀ j, j < i → p j = false)) (fun s _ => n - (RowKit.intOf s).toNat)
  case atStart => exact ⟨0, rfl, Nat.zero_le _, Below.refl _ _, fun j hj => by omega⟩
  case round =>
    obtain ⟨i, rfl, hi, hb, ha⟩ := hrel
    by_cases hin : i < n
    · obtain ⟨blk, off, rfl, hbl, hc⟩ := hz i hin
      have hc2 := (hb.cell (p := ⟨blk, off + i, none⟩) hbl).trans hc
      have hcall := (unhide HP) i hin wr hb
      clear hc hbl
      generalize z i = y at hc2 hcall
      cases hq : p i with
      | true =>
        have HA := hide (show (∃ i' : Nat, i' < n ∧ ((i : Int)) = i' ∧ p i' = true ∧ ∀ j, j < i' → p j = false) from ⟨i, hin, rfl, hq, unhide ha⟩)
        rw [hq] at hcall
        have HC := hide hcall
        clear hcall ha hq
        go_wp2_with (go_at_fn g; refine (unhide HC).mono ?_; rintro e w' ⟨rfl, hb'⟩)
        go_ret
        exact ⟨_, rfl, Or.inr (unhide HA), hb'⟩
      | false =>
        have HA := hide (next_no (unhide ha) hq)
        rw [hq] at hcall
        have HC := hide hcall
        clear hcall ha hq
        go_wp2_with (go_at_fn g; refine (unhide HC).mono ?_; rintro e w' ⟨rfl, hb'⟩)
        go_roundw
        case rel => exact ⟨i + 1, by go_num, by omega, hb', HA⟩
        case measure => simp [RowKit.intOf]; omega
    · have hin2 : i = n := by omega
      subst hin2
      go_wp2
      go_ret
      exact ⟨_, rfl, Or.inl ⟨rfl, unhide ha⟩, hb⟩
theorem has_ints (q : Option Addr) (n c : Nat) (z : Nat → Int) (g : Nat) (lb : Array Value) (p : Nat → Bool) (eg : ∀ args w, (callFunc g args).run Tryz.prog w = .ok (.enter g args) w) (w : World)
    (hz : Nums w q n z) (hn : n ≤ 1000) (hp : ∀ i, i < n → ∀ W, Below w.heap.size w W → Calls Tryz.prog g (#[.int .i64 (z i)] ++ lb) W fun ev W' => ev = .returned (.bool (p i)) ∧ Below w.heap.size w W') :
    Calls Tryz.prog 230 #[.slice q n c, .func (.func g) #[] lb] w fun ev w' => ev = .returned (.bool ((List.range n).any p)) ∧ Below w.heap.size w w' := by
  have H := hide (idx_ints q n c z g lb p eg w hz hn hp)
  have H2 := hide (fun r (h : Fst p n r) => h.has)
  clear hp hz
  generalize (List.range n).any p = d at *
  go_enter Tryz.func230, Tryz.ntmps230
  go_wp2_with fail
  refine (unhide H).mono ?_
  rintro ev w' ⟨r, rfl, hr, hb'⟩
  have hd := (unhide H2) r hr
  clear hr
  go_wp2_with fail
  go_ret
  exact ⟨by rw [← hd]; rfl, hb'⟩
set_option maxHeartbeats 1000000 in
theorem idx_lists (q : Option Addr) (n c : Nat) (M : Nat → Nat) (D : Nat → Nat → Int) (g : Nat) (lb : Array Value) (p : Nat → Bool) (eg : ∀ args w, (callFunc g args).run Tryz.prog w = .ok (.enter g args) w) (w : World)
    (hz : Rows2 w q n M D) (hn : n ≤ 1000) (hp : ∀ i, i < n → ∀ W, Below w.heap.size w W → ∀ pr c, Nums W pr (M i) (D i) → Calls Tryz.prog g (#[.slice pr (M i) c] ++ lb) W fun ev W' => ev = .returned (.bool (p i)) ∧ Below w.heap.size w W') :
    Calls Tryz.prog 277 #[.slice q n c, .func (.func g) #[] lb] w fun ev w' => ∃ r : Int, ev = .returned (.int .i64 r) ∧ Fst p n r ∧ Below w.heap.size w w' := by
  have HP := hide hp
  clear hp
  go_enter Tryz.func277, Tryz.ntmps277
  go_wp2
  go_loopw [8] (fun s wr => ∃ i : Nat, s = .int .i64 i ∧ i ≤ n ∧ Below w.heap.size w wr ∧ Hid (∀ j, j < i → p j = false)) (fun s _ => n - (RowKit.intOf s).toNat)
  case atStart => exact ⟨0, rfl, Nat.zero_le _, Below.refl _ _, fun j hj => by omega⟩
  case round =>
    obtain ⟨i, rfl, hi, hb, ha⟩ := hrel
    by_cases hin : i < n
    · obtain ⟨blk, off, pr, cc, rfl, hbl, hc, hnm, _⟩ := hz i hin
      have hc2 := (hb.cell (p := ⟨blk, off + i, none⟩) hbl).trans hc
      have hcall := (unhide HP) i hin wr hb pr cc (hnm.b hb)
      clear hc hbl hnm
      generalize M i = y at hc2 hcall
      cases hq : p i with
      | true =>
        have HA := hide (show (∃ i' : Nat, i' < n ∧ ((i : Int)) = i' ∧ p i' = true ∧ ∀ j, j < i' → p j = false) from ⟨i, hin, rfl, hq, unhide ha⟩)
        rw [hq] at hcall
        have HC := hide hcall
        clear hcall ha hq
        go_wp2_with (go_at_fn g; refine (unhide HC).mono ?_; rintro e w' ⟨rfl, hb'⟩)
        go_ret
        exact ⟨_, rfl, Or.inr (unhide HA), hb'⟩
      | false =>
        have HA := hide (next_no (unhide ha) hq)
        rw [hq] at hcall
        have HC := hide hcall
        clear hcall ha hq
        go_wp2_with (go_at_fn g; refine (unhide HC).mono ?_; rintro e w' ⟨rfl, hb'⟩)
        go_roundw
        case rel => exact ⟨i + 1, by go_num, by omega, hb', HA⟩
        case measure => simp [RowKit.intOf]; omega
    · have hin2 : i = n := by omega
      subst hin2
      go_wp2
      go_ret
      exact ⟨_, rfl, Or.inl ⟨rfl, unhide ha⟩, hb⟩
theorem has_lists (q : Option Addr) (n c : Nat) (M : Nat → Nat) (D : Nat → Nat → Int) (g : Nat) (lb : Array Value) (p : Nat → Bool) (eg : ∀ args w, (callFunc g args).run Tryz.prog w = .ok (.enter g args) w) (w : World)
    (hz : Rows2 w q n M D) (hn : n ≤ 1000) (hp : ∀ i, i < n → ∀ W, Below w.heap.size w W → ∀ pr c, Nums W pr (M i) (D i) → Calls Tryz.prog g (#[.slice pr (M i) c] ++ lb) W fun ev W' => ev = .returned (.bool (p i)) ∧ Below w.heap.size w W') :
    Calls Tryz.prog 244 #[.slice q n c, .func (.func g) #[] lb] w fun ev w' => ev = .returned (.bool ((List.range n).any p)) ∧ Below w.heap.size w w' := by
  have H := hide (idx_lists q n c M D g lb p eg w hz hn hp)
  have H2 := hide (fun r (h : Fst p n r) => h.has)
  clear hp hz
  generalize (List.range n).any p = d at *
  go_enter Tryz.func244, Tryz.ntmps244
  go_wp2_with fail
  refine (unhide H).mono ?_
  rintro ev w' ⟨r, rfl, hr, hb'⟩
  have hd := (unhide H2) r hr
  clear hr
  go_wp2_with fail
  go_ret
  exact ⟨by rw [← hd]; rfl, hb'⟩
set_option maxHeartbeats 1000000 in
theorem idx_blocks (q : Option Addr) (L : List Bl) (n c : Nat) (g : Nat) (lb : Array Value) (p : Nat → Bool) (eg : ∀ args w, (callFunc g args).run Tryz.prog w = .ok (.enter g args) w) (w : World)
    (hl : L.length = n) (hz : L ≠ [] → ∃ g', q = some ⟨g', 0, none⟩ ∧ Row w g' L) (hn : n ≤ 1000) (hp : ∀ i, i < n → ∀ W, Below w.heap.size w W → Calls Tryz.prog g (#[blkV (L.getD i (0, 0)).1 (L.getD i (0, 0)).2] ++ lb) W fun ev W' => ev = .returned (.bool (p i)) ∧ Below w.heap.size w W') :
    Calls Tryz.prog 257 #[.slice q n c, .func (.func g) #[] lb] w fun ev w' => ∃ r : Int, ev = .returned (.int .i64 r) ∧ Fst p n r ∧ Below w.heap.size w w' := by
  have HP := hide hp
  clear hp
  go_enter Tryz.func257, Tryz.ntmps257
  go_wp2
  go_loopw [8] (fun s wr => ∃ i : Nat, s = .int .i64 i ∧ i ≤ n ∧ Below w.heap.size w wr ∧ Hid (∀ j, j < i → p j = false)) (fun s _ => n - (RowKit.intOf s).toNat)
  case atStart => exact ⟨0, rfl, Nat.zero_le _, Below.refl _ _, fun j hj => by omega⟩
  case round =>
    obtain ⟨i, rfl, hi, hb, ha⟩ := hrel
    by_cases hin : i < n
    · obtain ⟨g', rfl, hR⟩ := hz (fun e => by rw [e] at hl; simp at hl; omega)
      obtain ⟨c1, c2⟩ := (hR.b hb).c i (by omega)
      have hcall := (unhide HP) i hin wr hb
      unfold blkV at hcall
      clear hR
      generalize (L.getD i (0, 0)).1 = y1 at c1 hcall
      generalize (L.getD i (0, 0)).2 = y2 at c2 hcall
      cases hq : p i with
      | true =>
        have HA := hide (show (∃ i' : Nat, i' < n ∧ ((i : Int)) = i' ∧ p i' = true ∧ ∀ j, j < i' → p j = false) from ⟨i, hin, rfl, hq, unhide ha⟩)
        rw [hq] at hcall
        have HC := hide hcall
        clear hcall ha hq
        go_wp2_with (go_at_fn g; refine (unhide HC).mono ?_; rintro e w' ⟨rfl, hb'⟩)
        go_ret
        exact ⟨_, rfl, Or.inr (unhide HA), hb'⟩
      | false =>
        have HA := hide (next_no (unhide ha) hq)
        rw [hq] at hcall
        have HC := hide hcall
        clear hcall ha hq
        go_wp2_with (go_at_fn g; refine (unhide HC).mono ?_; rintro e w' ⟨rfl, hb'⟩)
        go_roundw
        case rel => exact ⟨i + 1, by go_num, by omega, hb', HA⟩
        case measure => simp [RowKit.intOf]; omega
    · have hin2 : i = n := by omega
      subst hin2
      go_wp2
      go_ret
      exact ⟨_, rfl, Or.inl ⟨rfl, unhide ha⟩, hb⟩
theorem has_blocks (q : Option Addr) (L : List Bl) (n c : Nat) (g : Nat) (lb : Array Value) (p : Nat → Bool) (eg : ∀ args w, (callFunc g args).run Tryz.prog w = .ok (.enter g args) w) (w : World)
    (hl : L.length = n) (hz : L ≠ [] → ∃ g', q = some ⟨g', 0, none⟩ ∧ Row w g' L) (hn : n ≤ 1000) (hp : ∀ i, i < n → ∀ W, Below w.heap.size w W → Calls Tryz.prog g (#[blkV (L.getD i (0, 0)).1 (L.getD i (0, 0)).2] ++ lb) W fun ev W' => ev = .returned (.bool (p i)) ∧ Below w.heap.size w W') :
    Calls Tryz.prog 224 #[.slice q n c, .func (.func g) #[] lb] w fun ev w' => ev = .returned (.bool ((List.range n).any p)) ∧ Below w.heap.size w w' := by
  have H := hide (idx_blocks q L n c g lb p eg w hl hz hn hp)
  have H2 := hide (fun r (h : Fst p n r) => h.has)
  clear hp hz hl
  generalize (List.range n).any p = d at *
  go_enter Tryz.func224, Tryz.ntmps224
  go_wp2_with fail
  refine (unhide H).mono ?_
  rintro ev w' ⟨r, rfl, hr, hb'⟩
  have hd := (unhide H2) r hr
  clear hr
  go_wp2_with fail
  go_ret
  exact ⟨by rw [← hd]; rfl, hb'⟩
end Dz
end Go.Proofs.YtcbmfakjfoggaaaGreatDoor
