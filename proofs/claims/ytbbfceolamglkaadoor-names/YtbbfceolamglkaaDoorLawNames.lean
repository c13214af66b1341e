/- Names: its walk, over the contracts. -/
import Derived.Test.YtbbfceolamglkaaDoorCode
namespace Go.Proofs.YtbbfceolamglkaaDoor
open Go.RowKit
namespace Fr

set_option maxHeartbeats 2000000 in
/-- Package plain's Code at an api.Fault that wraps one of the ten errors: that error's number, and the place. -/
theorem code_fault (i : Nat) (hi : i < 10) (t : Int) (b : Nat) (w : World) (e : Nat → Addr) (he : Errs w e) (h0 : w.cell? ⟨b, 0, none⟩ = some (.int .i64 t)) (h1 : w.cell? ⟨b, 1, none⟩ = some (.iface 61 (.pointer (some (e i))))) (hb : b < w.heap.size) :
    Calls Tryd.prog 9 #[.iface 29 (.pointer (some ⟨b, 0, none⟩))] w fun ev w' => ev = .returned (.tuple #[.int .i64 (i + 1), .int .i64 t]) ∧ Below w.heap.size w w' := by
  have HT := he.typ
  go_enter Tryd.func9, Tryd.ntmps9
  go_wp2_with fail
  refine (as_hit ⟨b, 0, none⟩ ⟨w.heap.size, 0, none⟩ (.pointer none) _ (he.alloc _).typ (by simp) (by simp)).mono ?_
  rintro ev w1 ⟨rfl, hw1⟩
  have hb1 : Below w.heap.size w w1 := by rw [hw1]; exact Below.setCell (ballo (ballo (ballo (ballo (ballo (Below.refl _ _) _) _) _) _) _) (by simp) _
  have hf : w1.cell? ⟨w.heap.size, 0, none⟩ = some (.pointer (some ⟨b, 0, none⟩)) := by
    have hq : ((((((w.alloc (.cells #[.pointer none] 29)).alloc (.cells #[.pointer (some ⟨w.heap.size, 0, none⟩)] 59)).alloc (.cells #[.pointer (some ⟨11, 59, none⟩), .pointer (some ⟨(w.alloc (.cells #[.pointer none] 29)).heap.size, 0, none⟩), .int .u64 150] 69)).alloc (.cells #[.pointer (some ⟨11, 59, none⟩), .pointer (some ⟨(w.alloc (.cells #[.pointer none] 29)).heap.size, 0, none⟩), .int .u64 150] 69)).alloc (.cells #[.pointer (some ⟨b, 0, none⟩)] 29))).cell? ⟨w.heap.size, 0, none⟩ = some (.pointer none) := by
      rw [World.cell?_alloc_lt _ _ ⟨w.heap.size, 0, none⟩ (by simp; omega), World.cell?_alloc_lt _ _ ⟨w.heap.size, 0, none⟩ (by simp; omega), World.cell?_alloc_lt _ _ ⟨w.heap.size, 0, none⟩ (by simp; omega), World.cell?_alloc_lt _ _ ⟨w.heap.size, 0, none⟩ (by simp)]
      simp
    rw [hw1]
    exact World.cell?_setCell_same _ _ _ hq
  clear hw1
  have e1 := he.below hb1
  have c0 : w1.cell? ⟨b, 0, none⟩ = some (.int .i64 t) := by rw [hb1.cell (p := ⟨b, 0, none⟩) hb]; exact h0
  have c1 : w1.cell? ⟨b, 1, none⟩ = some (.iface 61 (.pointer (some (e i)))) := by rw [hb1.cell (p := ⟨b, 1, none⟩) hb]; exact h1
  have hb2 : b < w1.heap.size := Nat.lt_of_lt_of_le hb hb1.size
  have v0 := e1.var 0 (by omega)
  have v1 := e1.var 1 (by omega)
  have v2 := e1.var 2 (by omega)
  have v3 := e1.var 3 (by omega)
  have v4 := e1.var 4 (by omega)
  have v5 := e1.var 5 (by omega)
  have v6 := e1.var 6 (by omega)
  have v7 := e1.var 7 (by omega)
  have v8 := e1.var 8 (by omega)
  have v9 := e1.var 9 (by omega)
  clear he h0 h1 HT
  go_wp2_with fail
  have hcell := ten_cell w1 e
  have e2 := e1.alloc (tenO e)
  have hb3 := ballo hb1 (tenO e)
  have d1 : (w1.alloc (tenO e)).cell? ⟨b, 0 + 1, none⟩ = some (.iface 61 (.pointer (some (e i)))) := by
    rw [World.cell?_alloc_lt _ _ ⟨b, 0 + 1, none⟩ hb2]; exact c1
  clear e1 hb1 hb2 c0 c1 hf v0 v1 v2 v3 v4 v5 v6 v7 v8 v9
  generalize w1.alloc (tenO e) = W2 at *
  generalize w1.heap.size = B at *
  have H2 := hide e2
  have HB := hide hb3
  have HC := hide hcell
  have HD := hide d1
  clear e2 hb3 hcell d1
  go_loop [3, 28] (fun at_ k => ∃ n : Nat, n ≤ i ∧ k = .int .i64 n ∧ at_ = .int .i64 t) (fun _ k => 10 - (intOf k).toNat)
  case atStart => exact ⟨0, Nat.zero_le _, rfl, rfl⟩
  case round =>
    obtain ⟨n, hn, rfl, rfl⟩ := hrel
    have hc := (unhide HC) n (by omega)
    by_cases hni : n = i
    · subst hni
      have HI := hide (is_fault_same b 0 (e n) W2 (unhide HD))
      go_wp2_with (go_at_call 29; refine (unhide HI).mono ?_; rintro ev w' ⟨rfl, rfl⟩)
      go_ret2
      exact ⟨rfl, unhide HB⟩
    · obtain ⟨ca, ta, hba⟩ := (unhide H2).blk i hi
      obtain ⟨cb, tb, hbb⟩ := (unhide H2).blk n (by omega)
      have HI := hide (is_fault_other b 0 (e n) (e i) ca cb ta tb W2 (unhide HD) (fun h => hni ((unhide H2).inj i n hi (by omega) h).symm) hba hbb)
      have hlt : n < i := by omega
      clear hba hbb hni
      go_wp2_with (go_at_call 29; refine (unhide HI).mono ?_; rintro ev w' ⟨rfl, rfl⟩)
      go_round
      case rel => exact ⟨n + 1, by omega, by go_num, rfl⟩
      case measure => simp [intOf]; omega

set_option maxHeartbeats 2000000 in
/-- .. and at an error of errors.New's make that is none of the ten. -/
theorem code_new (x : Addr) (w : World) (e : Nat → Addr) (he : Errs w e) (hx : ∃ c t, w.heap[x.block]? = some (.cells c t (0, 0))) (hne : ∀ i, i < 10 → x ≠ e i) :
    Calls Tryd.prog 9 #[.iface 61 (.pointer (some x))] w fun ev w' => ev = .returned (.tuple #[.int .i64 (-1), .int .i64 (-1)]) ∧ Below w.heap.size w w' := by
  go_enter Tryd.func9, Tryd.ntmps9
  go_wp2_with fail
  refine (as_miss _ _ _ (he.alloc _).typ).mono ?_
  rintro ev w1 ⟨rfl, hw1⟩
  have hb : Below w.heap.size w w1 := by rw [hw1]; exact ballo (ballo (ballo (ballo (Below.refl _ _) _) _) _) _
  clear hw1
  have h1 := he.below hb
  have v0 := h1.var 0 (by omega)
  have v1 := h1.var 1 (by omega)
  have v2 := h1.var 2 (by omega)
  have v3 := h1.var 3 (by omega)
  have v4 := h1.var 4 (by omega)
  have v5 := h1.var 5 (by omega)
  have v6 := h1.var 6 (by omega)
  have v7 := h1.var 7 (by omega)
  have v8 := h1.var 8 (by omega)
  have v9 := h1.var 9 (by omega)
  clear he
  go_wp2_with fail
  have hcell := ten_cell w1 e
  have h2 := h1.alloc (tenO e)
  have hb2 := ballo hb (tenO e)
  obtain ⟨ca, ta, hxb⟩ := hx
  have hxl : x.block < w.heap.size := by
    rcases Nat.lt_or_ge x.block w.heap.size with h' | h'
    · exact h'
    · rw [Array.getElem?_eq_none h'] at hxb; cases hxb
  rw [← hb2.block _ hxl] at hxb
  clear h1 hb v0 v1 v2 v3 v4 v5 v6 v7 v8 v9 hxl
  generalize w1.alloc (tenO e) = W2 at *
  generalize w1.heap.size = B at *
  have H2 := hide h2
  have HB := hide hb2
  have HC := hide hcell
  have HX := hide hxb
  have HN := hide hne
  clear h2 hb2 hcell hxb hne
  go_loop [3, 28] (fun at_ k => ∃ n : Nat, n ≤ 10 ∧ k = .int .i64 n ∧ at_ = .int .i64 (-1)) (fun _ k => 10 - (intOf k).toNat)
  case atStart => exact ⟨0, Nat.zero_le _, rfl, rfl⟩
  case round =>
    obtain ⟨n, hn, rfl, rfl⟩ := hrel
    by_cases hlt : n < 10
    · have hc := (unhide HC) n hlt
      obtain ⟨cb, tb, hbb⟩ := (unhide H2).blk n hlt
      have HI := hide (is_other x (e n) ca cb ta tb W2 ((unhide HN) n hlt) (unhide HX) hbb)
      clear hbb
      go_wp2_with (go_at_call 29; refine (unhide HI).mono ?_; rintro ev w' ⟨rfl, rfl⟩)
      go_round
      case rel => exact ⟨n + 1, by omega, by go_num, rfl⟩
      case measure => simp [intOf]; omega
    · go_wp2_with fail
      go_ret2
      exact ⟨rfl, unhide HB⟩

/-- errors.New: a new block, an error that holds the text. -/
theorem new_any (s : ByteArray) (w : World) : Calls Tryd.prog 11 #[.string s] w fun ev w' => ev = .returned (.iface 61 (.pointer (some ⟨w.heap.size, 0, none⟩))) ∧ w' = w.alloc (.cells #[.string s] 63) := by
  go_enter Tryd.func11, Tryd.ntmps11
  go_wp2
  go_ret
  exact ⟨rfl, rfl⟩

/-- Two lists of numbers in memory with the same numbers. -/
theorem sameInts (x y : Nat) (n : Nat) (f : Nat → Int) (w : World) (hn : n ≤ 1000) (hx : ∀ i, i < n → w.cell? ⟨x, i, none⟩ = some (.int .i64 (f i))) (hy : ∀ i, i < n → w.cell? ⟨y, i, none⟩ = some (.int .i64 (f i))) :
    Calls Tryd.prog 8 #[.slice (some ⟨x, 0, none⟩) n n, .slice (some ⟨y, 0, none⟩) n n] w fun ev w' => ev = .returned (.bool true) ∧ Below w.heap.size w w' := by
  have HX := hide hx
  have HY := hide hy
  clear hx hy
  go_enter Tryd.func8, Tryd.ntmps8
  go_wp2
  go_loopw [5] (fun i wr => ∃ j : Nat, j ≤ n ∧ i = .int .i64 j ∧ wr.heap = w.heap ∧ wr.os = w.os ∧ wr.tape = w.tape ∧ wr.output = w.output) (fun i _ => n - (intOf i).toNat)
  case atStart => exact ⟨0, Nat.zero_le _, rfl, rfl, rfl, rfl, rfl⟩
  case round =>
    obtain ⟨j, hj, rfl, q1, q2, q3, q4⟩ := hrel
    have Q1 := hide q1
    have Q2 := hide q2
    have Q3 := hide q3
    have Q4 := hide q4
    clear q1 q2 q3 q4
    by_cases hlt : j < n
    · have c1 : wr.cell? ⟨x, j, none⟩ = some (.int .i64 (f j)) := by rw [← (unhide HX) j hlt]; simp [World.cell?, unhide Q1]
      have c2 : wr.cell? ⟨y, j, none⟩ = some (.int .i64 (f j)) := by rw [← (unhide HY) j hlt]; simp [World.cell?, unhide Q1]
      go_wp2
      go_region
      go_wp2
      go_roundw
      case rel => exact ⟨j + 1, by omega, by go_num, unhide Q1, unhide Q2, unhide Q3, unhide Q4⟩
      case measure => simp [intOf]; omega
    · go_wp2
      go_ret
      exact ⟨rfl, ⟨unhide Q2, unhide Q3, unhide Q4, by rw [unhide Q1]; exact Nat.le_refl _, fun k _ => by rw [unhide Q1]⟩⟩

/-- The seventeen numbers, as they lie in memory. -/
def nums : List Int := [64, 256, 6, 4, 8, 64, 4, 4, 16, 8, 16, 12, 600, 40, 2000, 100, 16]
abbrev numsO : Obj := .cells #[.int .i64 64, .int .i64 256, .int .i64 6, .int .i64 4, .int .i64 8, .int .i64 64, .int .i64 4, .int .i64 4, .int .i64 16, .int .i64 8, .int .i64 16, .int .i64 12, .int .i64 600, .int .i64 40, .int .i64 2000, .int .i64 100, .int .i64 16] 3
theorem nums_cell (w : World) (n : Nat) (hn : n < 17) : (w.alloc numsO).cell? ⟨w.heap.size, n, none⟩ = some (.int .i64 (nums.getD n 0)) := by
  match n, hn with
  | 0, _ => simp [nums]
  | 1, _ => simp [nums]
  | 2, _ => simp [nums]
  | 3, _ => simp [nums]
  | 4, _ => simp [nums]
  | 5, _ => simp [nums]
  | 6, _ => simp [nums]
  | 7, _ => simp [nums]
  | 8, _ => simp [nums]
  | 9, _ => simp [nums]
  | 10, _ => simp [nums]
  | 11, _ => simp [nums]
  | 12, _ => simp [nums]
  | 13, _ => simp [nums]
  | 14, _ => simp [nums]
  | 15, _ => simp [nums]
  | 16, _ => simp [nums]
  | k + 17, h => omega

/-- The list of the ten errors lies at a block. -/
structure Ten (w : World) (b : Nat) (e : Nat → Addr) : Prop where
  c : ∀ n, n < 10 → w.cell? ⟨b, n, none⟩ = some (.iface 61 (.pointer (some (e n))))
  lt : b < w.heap.size
theorem Ten.b {w w' : World} {b : Nat} {e : Nat → Addr} (h : Ten w b e) (hb : Below w.heap.size w w') : Ten w' b e :=
  ⟨fun n hn => by rw [hb.cell (p := ⟨b, n, none⟩) h.lt]; exact h.c n hn, Nat.lt_of_lt_of_le h.lt hb.size⟩

theorem new_block (w : World) (o : Obj) : (w.alloc o).heap[w.heap.size]? = some o := by
  show (w.heap.push o)[w.heap.size]? = _
  simp
theorem names_any (w : World) (e : Nat → Addr) (he : Errs w e) : Calls Tryd.prog 3 #[] w fun ev w' => ev = .returned (.bool true) ∧ Below w.heap.size w w' := by
  have HE := hide he
  go_enter Tryd.func3, Tryd.ntmps3
  go_wp2_with fail
  refine (sameInts w.heap.size (w.heap.size + 1) 17 (fun i => nums.getD i 0) _ (by omega) (fun i hi => ?_) (fun i hi => ?_)).mono ?_
  · rw [World.cell?_alloc_lt _ _ ⟨w.heap.size, i, none⟩ (by simp)]; exact nums_cell w i hi
  · simpa using nums_cell (w.alloc numsO) i hi
  rintro ev w1 ⟨rfl, b1⟩
  have F1 : Below w.heap.size w w1 := btr (ballo (ballo (Below.refl _ _) numsO) numsO) b1
  have e1 := he.below F1
  have v0 := e1.var 0 (by omega)
  have v1 := e1.var 1 (by omega)
  have v2 := e1.var 2 (by omega)
  have v3 := e1.var 3 (by omega)
  have v4 := e1.var 4 (by omega)
  have v5 := e1.var 5 (by omega)
  have v6 := e1.var 6 (by omega)
  have v7 := e1.var 7 (by omega)
  have v8 := e1.var 8 (by omega)
  have v9 := e1.var 9 (by omega)
  clear he b1
  go_wp2_with fail
  have t2 : Ten (w1.alloc (tenO e)) w1.heap.size e := ⟨ten_cell w1 e, by simp⟩
  have e2 := e1.alloc (tenO e)
  have F2 := ballo F1 (tenO e)
  clear e1 F1 v0 v1 v2 v3 v4 v5 v6 v7 v8 v9
  generalize w1.alloc (tenO e) = W2 at *
  generalize w1.heap.size = B at *
  have I2 := hide (show Errs W2 e ∧ Ten W2 B e ∧ Below w.heap.size w W2 from ⟨e2, t2, F2⟩)
  clear e2 t2 F2
  go_loopw [4] (fun i wr => ∃ n : Nat, n ≤ 10 ∧ i = .int .i64 n ∧ Errs wr e ∧ Ten wr B e ∧ Below w.heap.size w wr) (fun i _ => 10 - (intOf i).toNat)
  case atStart => exact ⟨0, Nat.zero_le _, rfl, unhide I2⟩
  case round =>
    obtain ⟨n, hn, rfl, er, tr, Fr1⟩ := hrel
    by_cases hlt : n < 10
    · have hc := tr.c n hlt
      go_wp2_with fail
      refine (code_fault n hlt 7 wr.heap.size _ e (er.alloc _) (by simp) (by simp) (by simp)).mono ?_
      rintro ev w3 ⟨rfl, b3⟩
      have b4 := btr (ballo (Below.refl wr.heap.size wr) (.cells #[.int .i64 7, .iface 61 (.pointer (some (e n)))] 31)) b3
      have er3 := er.below b4
      have tr3 := tr.b b4
      have F3 := btr Fr1 b4
      clear er tr Fr1 b3 b4 hc
      have hc := tr3.c n hlt
      go_wp2_with fail
      refine (coded_sent n hlt _ rfl _ e er3).mono ?_
      rintro ev w5 ⟨rfl, b5⟩
      have er5 := er3.below b5
      have tr5 := tr3.b b5
      have F5 := btr F3 b5
      clear er3 tr3 F3 b5 hc
      go_wp2_with fail
      go_roundw
      case rel => exact ⟨n + 1, by omega, by go_num, er5, tr5, F5⟩
      case measure => simp [intOf]; omega
    · go_wp2_with fail
      refine (new_any _ _).mono ?_
      rintro ev w3 ⟨rfl, rfl⟩
      go_wp2_with fail
      refine (code_new ⟨wr.heap.size, 0, none⟩ _ e (er.alloc _) ⟨_, _, new_block _ _⟩ (fun i hi hx => ?_)).mono ?_
      · obtain ⟨c, t, hb⟩ := er.blk i hi
        rw [← hx] at hb
        simp at hb
      rintro ev w4 ⟨rfl, b4⟩
      go_wp2_with fail
      refine (coded_nil _).mono ?_
      rintro ev w5 ⟨rfl, b5⟩
      go_wp2_with fail
      go_ret
      exact ⟨rfl, btr (btr (ballo Fr1 _) b4) b5⟩
end Fr
end Go.Proofs.YtbbfceolamglkaaDoor
