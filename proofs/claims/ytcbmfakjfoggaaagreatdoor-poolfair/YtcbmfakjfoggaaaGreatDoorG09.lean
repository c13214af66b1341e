/- Package zone's inBounds, by contract · The document's answer's ConfigError, by contract. -/
import Derived.Test.YtcbmfakjfoggaaaGreatDoorG08
import Derived.Deep.RegionLaw
import Derived.Laws.EntriesVeiled
namespace Go.Proofs.YtcbmfakjfoggaaaGreatDoor
open Go.RowKit
namespace Dz
open Fr Bd Zn
def out (lo hi n : Int) : Bool := decide (n < lo) || decide (n > hi)
/-- What an 'outside' is bound to. -/
def Out (w : World) (lb : Array Value) (lo hi : Int) : Prop := ∃ b0 b1, lb = #[.pointer (some ⟨b0, 0, none⟩), .pointer (some ⟨b1, 0, none⟩)] ∧ w.cell? ⟨b0, 0, none⟩ = some (.int .i64 lo) ∧ w.cell? ⟨b1, 0, none⟩ = some (.int .i64 hi) ∧ b0 < w.heap.size ∧ b1 < w.heap.size
theorem Out.b {w w' : World} {lb : Array Value} {lo hi : Int} (h : Out w lb lo hi) (hb : Below w.heap.size w w') : Out w' lb lo hi := by
  obtain ⟨b0, b1, rfl, c0, c1, l0, l1⟩ := h
  exact ⟨b0, b1, rfl, (hb.cell (p := ⟨b0, 0, none⟩) l0).trans c0, (hb.cell (p := ⟨b1, 0, none⟩) l1).trans c1, Nat.lt_of_lt_of_le l0 hb.size, Nat.lt_of_lt_of_le l1 hb.size⟩
theorem out1_ok (lb : Array Value) (lo hi n : Int) (w : World) (h : Out w lb lo hi) :
    Calls Tryz.prog 276 (#[.int .i64 n] ++ lb) w fun ev w' => ev = .returned (.bool (out lo hi n)) ∧ Below w.heap.size w w' := by
  obtain ⟨b0, b1, rfl, c0, c1, _, _⟩ := h
  simp only [List.append_toArray, List.cons_append, List.nil_append]
  unfold out
  cases h1 : decide (n < lo)
  · cases h2 : decide (n > hi)
    · go_enter Tryz.func276, Tryz.ntmps276
      go_wp2
      go_ret
      exact ⟨rfl, Below.refl _ _⟩
    · go_enter Tryz.func276, Tryz.ntmps276
      go_wp2
      go_ret
      exact ⟨rfl, Below.refl _ _⟩
  · go_enter Tryz.func276, Tryz.ntmps276
    go_wp2
    go_ret
    exact ⟨rfl, Below.refl _ _⟩
theorem outside_ok (lo hi : Int) (w : World) :
    Calls Tryz.prog 243 #[.int .i64 lo, .int .i64 hi] w fun ev w' => ∃ lb, ev = .returned (.func (.func 276) #[] lb) ∧ Out w' lb lo hi ∧ Below w.heap.size w w' := by
  go_enter Tryz.func243, Tryz.ntmps243
  go_wp2
  go_ret
  exact ⟨_, rfl, ⟨_, _, rfl, by simp, by simp, by simp; omega, by simp⟩, ballo (ballo (Below.refl _ _) _) _⟩
theorem eg114 : ∀ args w, (callFunc 276 args).run Tryz.prog w = .ok (.enter 276 args) w := enters_of Tryz.func276 (by kernel_rfl) rfl
theorem eg96 : ∀ args w, (callFunc 245 args).run Tryz.prog w = .ok (.enter 245 args) w := enters_of Tryz.func245 (by kernel_rfl) rfl
theorem inb1_ok (lb : Array Value) (tb : Nat) (pr : Option Addr) (m c : Nat) (z : Nat → Int) (w : World) (hc : w.cell? ⟨tb, 0, none⟩ = some (.func (.func 276) #[] lb)) (h : Out w lb 0 1000) (hz : Nums w pr m z) (hm : m ≤ 1000) :
    Calls Tryz.prog 245 (#[.slice pr m c] ++ #[.pointer (some ⟨tb, 0, none⟩)]) w fun ev w' => ev = .returned (.bool ((List.range m).any fun i => out 0 1000 (z i))) ∧ Below w.heap.size w w' := by
  have H := hide (has_ints pr m c z 276 lb (fun i => out 0 1000 (z i)) eg114 w hz hm (fun i _ W hW => out1_ok lb 0 1000 (z i) W (h.b hW) |>.mono fun e w' hh => ⟨hh.1, btr hW hh.2⟩))
  clear h hz
  simp only [List.append_toArray, List.cons_append, List.nil_append]
  generalize (List.range m).any (fun i => out 0 1000 (z i)) = d at *
  go_enter Tryz.func245, Tryz.ntmps245
  go_wp2_with fail
  refine (unhide H).mono ?_
  rintro ev w' ⟨rfl, hb'⟩
  go_wp2_with fail
  go_ret
  exact ⟨rfl, hb'⟩
/-- Is a config within its bounds? -/
def inB (c : Cf) : Bool := !(out 1 4 c.n) && (!((List.range c.n).any fun i => out 1 256 (c.P i)) && (!((List.range c.m).any fun i => (List.range (c.M i)).any fun k => out 0 1000 (c.D i k)) && (decide (0 ≤ c.mn) && decide (c.mn ≤ c.lw) && decide (c.lw ≤ c.hi))))
theorem inB_iff (c : Cf) : inB c = true ↔ ¬ c.bad2 := by
  unfold inB Cf.bad2 out
  simp only [Bool.and_eq_true, Bool.not_eq_true', Bool.or_eq_false_iff, decide_eq_false_iff_not, List.any_eq_false, List.mem_range, Bool.or_eq_true, decide_eq_true_eq, List.any_eq_true]
  constructor
  · rintro ⟨⟨h1, h2⟩, h3, h4, ⟨h5, h6⟩, h7⟩ hh
    rcases hh with h | h | ⟨i, hi, h⟩ | ⟨i, hi, k, hk, h⟩ | h | h | h
    · omega
    · omega
    · exact h3 i hi (by omega)
    · exact h4 i hi ⟨k, hk, by omega⟩
    · omega
    · omega
    · omega
  · intro h
    refine ⟨⟨fun a => h (Or.inl (by omega)), fun a => h (Or.inr (Or.inl (by omega)))⟩, fun i hi a => h (Or.inr (Or.inr (Or.inl ⟨i, hi, by omega⟩))), fun i hi ⟨k, hk, a⟩ => h (Or.inr (Or.inr (Or.inr (Or.inl ⟨i, hi, k, hk, by omega⟩)))), ⟨?_, ?_⟩, ?_⟩
    · exact Int.not_lt.1 fun a => h (Or.inr (Or.inr (Or.inr (Or.inr (Or.inl a)))))
    · exact Int.not_lt.1 fun a => h (Or.inr (Or.inr (Or.inr (Or.inr (Or.inr (Or.inl a))))))
    · exact Int.not_lt.1 fun a => h (Or.inr (Or.inr (Or.inr (Or.inr (Or.inr (Or.inr a))))))
set_option maxHeartbeats 4000000 in
theorem inb_ok (c : Cf) (p q : Option Addr) (pc qc : Nat) (w : World) (h : At w c p q) (hwd : ¬ c.wide) :
    Calls Tryz.prog 193 #[cfV c p pc q qc] w fun ev w' => ev = .returned (.bool (inB c)) ∧ Below w.heap.size w w' := by
  unfold cfV
  have BX := box_new w c p q pc qc 127
  have F1 := ballo (Below.refl w.heap.size w) (.cells #[.slice p c.n pc, .slice q c.m qc, .int .i64 c.mn, .int .i64 c.lw, .int .i64 c.hi] 127)
  have A1 := h.b F1
  have hwn : c.n ≤ 20 := Nat.le_of_not_lt fun h => hwd (Or.inl h)
  have hwm : c.m ≤ 20 := Nat.le_of_not_lt fun h => hwd (Or.inr (Or.inl h))
  have hwM : ∀ i, i < c.m → c.M i ≤ 20 := fun i hi => Nat.le_of_not_lt fun h => hwd (Or.inr (Or.inr ⟨i, hi, h⟩))
  have HP := hide (fun w (h : Nums w p c.n c.P) (lb : Array Value) (ho : Out w lb 1 256) => has_ints p c.n pc c.P 276 lb (fun i => out 1 256 (c.P i)) eg114 w h (by omega) (fun i _ W hW => out1_ok lb 1 256 (c.P i) W (ho.b hW) |>.mono fun e w' hh => ⟨hh.1, btr hW hh.2⟩))
  have HD := hide (fun w (h : Rows2 w q c.m c.M c.D) (lb : Array Value) (tb : Nat) (hc : w.cell? ⟨tb, 0, none⟩ = some (.func (.func 276) #[] lb)) (hl : tb < w.heap.size) (ho : Out w lb 0 1000) => has_lists q c.m qc c.M c.D 245 #[.pointer (some ⟨tb, 0, none⟩)] (fun i => (List.range (c.M i)).any fun k => out 0 1000 (c.D i k)) eg96 w h (by omega) (fun i hi W hW pr cc hn => inb1_ok lb tb pr (c.M i) cc (c.D i) W ((hW.cell (p := ⟨tb, 0, none⟩) hl).trans hc) (ho.b hW) hn (by have := hwM i hi; omega) |>.mono fun e w' hh => ⟨hh.1, btr hW hh.2⟩))
  have HI : Hid (inB c = (!(out 1 4 c.n) && (!((List.range c.n).any fun i => out 1 256 (c.P i)) && (!((List.range c.m).any fun i => (List.range (c.M i)).any fun k => out 0 1000 (c.D i k)) && (decide (0 ≤ c.mn) && decide (c.mn ≤ c.lw) && decide (c.lw ≤ c.hi)))))) := rfl
  have HO := hide (fun lb w h => out1_ok lb 1 4 c.n w h)
  clear h hwd hwn hwm hwM
  rw [unhide HI]
  clear HI
  generalize (List.range c.n).any (fun i => out 1 256 (c.P i)) = x2 at *
  generalize (List.range c.m).any (fun i => (List.range (c.M i)).any fun k => out 0 1000 (c.D i k)) = x3 at *
  generalize out 1 4 c.n = x1 at *
  obtain ⟨n, P, m, M, D, mn, lw, hi⟩ := c
  simp only at *
  go_enter Tryz.func193, Tryz.ntmps193
  go_wp2_with fail
  generalize w.alloc (.cells #[.slice p n pc, .slice q m qc, .int .i64 mn, .int .i64 lw, .int .i64 hi] 127) = W at *
  have b0 := BX.c0
  have b1 := BX.c1
  have b2 := BX.c2
  have b3 := BX.c3
  have b4 := BX.c4
  have hbl := BX.lt
  simp only at b0 b1 b2 b3 b4
  have KC := hide (fun w1 (hb : Below W.heap.size W w1) => (hb.cell (p := ⟨w.heap.size, 0, none⟩) hbl).trans b0)
  have KF := hide (fun w1 (hb : Below W.heap.size W w1) => F1.trans (hb.mono F1.size))
  have KA := hide (fun w1 (hb : Below W.heap.size W w1) => A1.b hb)
  have KB := hide (fun w1 (hb : Below W.heap.size W w1) => show w1.cell? ⟨w.heap.size, 1, none⟩ = some (.slice q m qc) ∧ w1.cell? ⟨w.heap.size, 2, none⟩ = some (.int .i64 mn) ∧ w1.cell? ⟨w.heap.size, 3, none⟩ = some (.int .i64 lw) ∧ w1.cell? ⟨w.heap.size, 4, none⟩ = some (.int .i64 hi) from ⟨(hb.cell (p := ⟨w.heap.size, 1, none⟩) hbl).trans b1, (hb.cell (p := ⟨w.heap.size, 2, none⟩) hbl).trans b2, (hb.cell (p := ⟨w.heap.size, 3, none⟩) hbl).trans b3, (hb.cell (p := ⟨w.heap.size, 4, none⟩) hbl).trans b4⟩)
  clear A1 F1 BX b1 b2 b3 b4
  have tk : True := trivial
  have tk2 : True := trivial
  cases x1 with
  | true =>
    clear HP HD KA KB
    first
    | (go_region_law (first
      | (have _t := tk; go_simp; go_at_call 243; refine (outside_ok 1 4 _).mono ?_; rintro ev w2 ⟨lb, rfl, ho, b2⟩; have k2 : Below W.heap.size W w2 := bd b2; have c2 := (unhide KC) w2 k2; clear tk)
      | (go_simp; go_at_call 276; refine ((unhide HO) lb _ (by first | exact ho | exact ho.b (drw _))).mono ?_; rintro ev w3 ⟨rfl, b3'⟩; have k3 := k2.trans (b3'.mono k2.size))))
    | skip
    all_goals
      go_wp2
      go_ret
      exact ⟨rfl, (unhide KF) _ k3⟩
  | false =>
    cases x2 with
    | true =>
      clear HD KB
      first
      | (go_region_law (first
        | (have _t := tk; go_simp; go_at_call 243; refine (outside_ok 1 4 _).mono ?_; rintro ev w2 ⟨lb, rfl, ho, b2⟩; have k2 : Below W.heap.size W w2 := bd b2; have c2 := (unhide KC) w2 k2; clear tk)
        | (go_simp; go_at_call 276; refine ((unhide HO) lb _ (by first | exact ho | exact ho.b (drw _))).mono ?_; rintro ev w3 ⟨rfl, b3'⟩; have k3 := k2.trans (b3'.mono k2.size); have c3 := (unhide KC) w3 k3)
        | (have _t := tk2; go_simp; go_at_call 243; refine (outside_ok 1 256 _).mono ?_; rintro ev w4 ⟨lb4, rfl, ho4, b4'⟩; have k4 := k3.trans (b4'.mono k3.size); have c4 := (unhide KC) w4 k4; clear tk2)
        | (go_simp; go_at_call 230; refine ((unhide HP) w4 ((unhide KA) w4 k4).ps lb4 ho4).mono ?_; rintro ev w5 ⟨rfl, b5'⟩; have k5 := k4.trans (b5'.mono k4.size))))
      | skip
      all_goals
        go_wp2
        go_ret
        exact ⟨rfl, (unhide KF) _ k5⟩
    | false =>
      first
      | (go_region_law (first
        | (have _t := tk; go_simp; go_at_call 243; refine (outside_ok 1 4 _).mono ?_; rintro ev w2 ⟨lb, rfl, ho, b2⟩; have k2 : Below W.heap.size W w2 := bd b2; have c2 := (unhide KC) w2 k2; clear tk)
        | (go_simp; go_at_call 276; refine ((unhide HO) lb _ (by first | exact ho | exact ho.b (drw _))).mono ?_; rintro ev w3 ⟨rfl, b3'⟩; have k3 := k2.trans (b3'.mono k2.size); have c3 := (unhide KC) w3 k3)
        | (have _t := tk2; go_simp; go_at_call 243; refine (outside_ok 1 256 _).mono ?_; rintro ev w4 ⟨lb4, rfl, ho4, b4'⟩; have k4 := k3.trans (b4'.mono k3.size); have c4 := (unhide KC) w4 k4; clear tk2)
        | (go_simp; go_at_call 230; refine ((unhide HP) w4 ((unhide KA) w4 k4).ps lb4 ho4).mono ?_; rintro ev w5 ⟨rfl, b5'⟩; have k5 := k4.trans (b5'.mono k4.size))))
      | skip
      all_goals
        clear ho ho4 k2 k3 k4 c2 c3 c4 HP HO
        go_wp2_with fail
        refine (outside_ok 0 1000 _).mono ?_
        rintro ev w6 ⟨lb6, rfl, ho6, b6⟩
        have k6 := ballo (k5.trans (b6.mono k5.size)) (.cells #[.func (.func 276) #[] lb6] 146)
        have HX := hide ((unhide HD) _ ((unhide KA) _ k6).rs lb6 w6.heap.size (World.cell?_alloc_new w6 _ 146 0) (by simp) (ho6.b (ballo (Below.refl _ _) _)))
        have hb1 := ((unhide KB) _ k6).1
        clear ho6 HD
        go_wp2_with fail
        refine (unhide HX).mono ?_
        rintro ev w7 ⟨rfl, b7⟩
        have k7 := k6.trans (b7.mono k6.size)
        obtain ⟨_, y2, y3, y4⟩ := (unhide KB) _ k7
        have HF := hide ((unhide KF) _ k7)
        clear KB KC KF KA k5 b6 k6 b7 k7 HX hb1
        cases x3 with
        | true =>
          go_wp2
          go_ret
          exact ⟨rfl, unhide HF⟩
        | false =>
          by_cases e1 : 0 ≤ mn
          · have d1 : decide (0 ≤ mn) = true := by simpa using e1
            by_cases e2 : mn ≤ lw
            · have d2 : decide (mn ≤ lw) = true := by simpa using e2
              by_cases e3 : lw ≤ hi
              · have d3 : decide (lw ≤ hi) = true := by simpa using e3
                go_wp2
                go_ret
                exact ⟨by rw [d1, d2, d3]; rfl, unhide HF⟩
              · have d3 : decide (lw ≤ hi) = false := by simpa using e3
                go_wp2
                go_ret
                exact ⟨by rw [d1, d2, d3]; rfl, unhide HF⟩
            · have d2 : decide (mn ≤ lw) = false := by simpa using e2
              go_wp2
              go_ret
              exact ⟨by rw [d1, d2]; rfl, unhide HF⟩
          · have d1 : decide (0 ≤ mn) = false := by simpa using e1
            go_wp2
            go_ret
            exact ⟨by rw [d1]; rfl, unhide HF⟩
end Dz
end Go.Proofs.YtcbmfakjfoggaaaGreatDoor
namespace Go.Proofs.YtcbmfakjfoggaaaGreatDoor
open Go.RowKit
namespace Zn
open Fr Bd
theorem lt_next {p : Nat → Prop} {i : Nat} (h : ∀ j, j < i → p j) (hi : p i) : ∀ j, j < i + 1 → p j := fun j hj => by
  rcases Nat.lt_or_ge j i with h' | h'
  · exact h j h'
  · obtain rfl : j = i := by omega
    exact hi
set_option maxRecDepth 100000 in
set_option maxHeartbeats 16000000 in
theorem cerr_ok (c : Cf) (p q : Option Addr) (pc qc : Nat) (w : World) (h : At w c p q) (hwd : ¬ c.wide) :
    Calls Tryz.prog 63 #[cfV c p pc q qc] w fun ev w' => ∃ e : Int, ev = .returned (.int .i64 e) ∧ c.is e ∧ Below w.heap.size w w' := by
  unfold cfV
  have BX := box_new w c p q pc qc 122
  have F1 := hide (ballo (Below.refl w.heap.size w) (.cells #[.slice p c.n pc, .slice q c.m qc, .int .i64 c.mn, .int .i64 c.lw, .int .i64 c.hi] 122))
  have A1 := h.b (unhide F1)
  have R2 : Hid (c.bad2 → c.is 2) := fun h => Or.inl ⟨rfl, h⟩
  have R3 : Hid (¬ c.bad2 → ¬ c.shp ∨ c.bad3 → c.is 3) := fun h h2 => Or.inr (Or.inl ⟨rfl, h, h2⟩)
  have R0 : Hid (¬ c.bad2 → c.shp → ¬ c.bad3 → c.is 0) := fun h h2 h3 => Or.inr (Or.inr ⟨rfl, h, h2, h3⟩)
  have H2 := hide (show c.bad2 ↔ (c.n < 1 ∨ 4 < c.n ∨ (∃ i, i < c.n ∧ (c.P i < 1 ∨ 256 < c.P i)) ∨ (∃ i, i < c.m ∧ ∃ k, k < c.M i ∧ (c.D i k < 0 ∨ 1000 < c.D i k)) ∨ c.mn < 0 ∨ c.lw < c.mn ∨ c.hi < c.lw) from Iff.rfl)
  have HS := hide (show c.shp ↔ (c.m = c.n ∧ ∀ i, i < c.m → c.M i = c.n) from Iff.rfl)
  have H3 := hide (show c.bad3 ↔ (∃ i, i < c.n ∧ ∃ k, k < c.n ∧ i ≠ k ∧ c.D i k ≤ c.D i i) from Iff.rfl)
  have hwn : c.n ≤ 20 := Nat.le_of_not_lt fun h => hwd (Or.inl h)
  have hwm : c.m ≤ 20 := Nat.le_of_not_lt fun h => hwd (Or.inr (Or.inl h))
  have hwM : Hid (∀ i, i < c.m → c.M i ≤ 20) := fun i hi => Nat.le_of_not_lt fun h => hwd (Or.inr (Or.inr ⟨i, hi, h⟩))
  clear h hwd
  generalize c.is = IS at *
  generalize c.bad2 = B2 at *
  generalize c.shp = SH at *
  generalize c.bad3 = B3 at *
  obtain ⟨n, P, m, M, D, mn, lw, hi⟩ := c
  simp only at *
  obtain ⟨A0, A1⟩ := A1
  simp only at A0 A1
  by_cases h1 : n < 1 ∨ 4 < n
  · have d1 : decide ((n : Int) < 1) = true ∨ (decide ((n : Int) < 1) = false ∧ decide ((4 : Int) < n) = true) := by simp; omega
    have hr := hide ((unhide R2) ((unhide H2).2 (by rcases h1 with h | h <;> simp [h])))
    clear A0 A1 R2 R3 R0 H2 HS H3 BX
    rcases d1 with d1 | ⟨d1, d2⟩
    all_goals
      go_enter Tryz.func63, Tryz.ntmps63
      go_wp2
      go_ret
      exact ⟨2, rfl, unhide hr, unhide F1⟩
  have d1 : decide ((n : Int) < 1) = false := by simp; omega
  have d2 : decide ((4 : Int) < n) = false := by simp; omega
  go_enter Tryz.func63, Tryz.ntmps63
  go_wp2_with fail
  generalize w.alloc (.cells #[.slice p n pc, .slice q m qc, .int .i64 mn, .int .i64 lw, .int .i64 hi] 122) = W at *
  have b0 := BX.c0
  have b1 := BX.c1
  have b2 := BX.c2
  have b3 := BX.c3
  have b4 := BX.c4
  have hbx0 := BX.lt
  simp only at b0 b1 b2 b3 b4
  clear BX d1 d2
  have A0 := hide A0
  have A1 := hide A1
  go_loopw [4] (fun a wr => ∃ i : Nat, a = .int .i64 i ∧ i ≤ n ∧ W = wr ∧ Hid (∀ j, j < i → 1 ≤ P j ∧ P j ≤ 256)) (fun a _ => n - (RowKit.intOf a).toNat)
  case atStart => exact ⟨0, rfl, Nat.zero_le _, rfl, fun j hj => by omega⟩
  case round =>
    obtain ⟨i, rfl, hi', rfl, hP⟩ := hrel
    have hge : (0 : Int) ≤ i := by omega
    by_cases hin : i < n
    · have hlt : (i : Int) < n := by omega
      obtain ⟨blk, off, rfl, hbl, hc⟩ := (unhide A0) i hin
      by_cases hx : P i < 1 ∨ 256 < P i
      · have d3 : decide (P i < 1) = true ∨ (decide (P i < 1) = false ∧ decide (256 < P i) = true) := by simp; omega
        have hr := hide ((unhide R2) ((unhide H2).2 (Or.inr (Or.inr (Or.inl ⟨i, hin, hx⟩)))))
        clear R2 R3 R0 H2 HS H3 A0 A1 hx hP
        generalize P i = x at *
        rcases d3 with d3 | ⟨d3, d4⟩
        all_goals
          go_wp2
          go_ret
          exact ⟨2, rfl, unhide hr, unhide F1⟩
      · have d3 : decide (P i < 1) = false := by simp; omega
        have d4 : decide (256 < P i) = false := by simp; omega
        have hN := hide (lt_next (p := fun j => 1 ≤ P j ∧ P j ≤ 256) (unhide hP) (by omega))
        clear R2 R3 R0 H2 HS H3 A0 A1 hx hP
        generalize P i = x at *
        go_wp2
        go_roundw
        case rel => exact ⟨i + 1, by go_num, by omega, (by first | rfl | trivial), hN⟩
        case measure => simp [RowKit.intOf]; omega
    · have hlt : ¬ (i : Int) < n := by omega
      obtain rfl : n = i := by omega
      clear hin hi'
      have hP2 := hide (show ¬ ∃ i, i < n ∧ (P i < 1 ∨ 256 < P i) from fun ⟨j, k1, k2⟩ => by have := (unhide hP) j k1; omega)
      clear hP A0
      go_wp2_with fail
      go_loopw [5, 6] (fun s a wr => ∃ (sh : Bool) (i : Nat), s = .bool sh ∧ a = .int .i64 i ∧ i ≤ m ∧ W = wr ∧ Hid (∀ j, j < i → ∀ k, k < M j → 0 ≤ D j k ∧ D j k ≤ 1000) ∧ Hid (sh = true ↔ m = n ∧ ∀ j, j < i → M j = n)) (fun _ a _ => m - (RowKit.intOf a).toNat)
      case atStart => exact ⟨_, 0, rfl, rfl, Nat.zero_le _, rfl, fun j hj => by omega, by simp [Hid]; omega⟩
      case round =>
        obtain ⟨sh, i, rfl, rfl, hi', rfl, hD, hS⟩ := hrel
        have hge : (0 : Int) ≤ i := by omega
        by_cases hin : i < m
        · have hlt : (i : Int) < m := by omega
          obtain ⟨blk, off, pr, cc, rfl, hbl, hc, hrow, _⟩ := (unhide A1) i hin
          have hrow := hide hrow
          have hMi := (unhide hwM) i hin
          go_wp2_with fail
          go_loopw [7] (fun a wr => ∃ k : Nat, a = .int .i64 k ∧ k ≤ M i ∧ W = wr ∧ Hid (∀ j, j < k → 0 ≤ D i j ∧ D i j ≤ 1000)) (fun a _ => M i - (RowKit.intOf a).toNat)
          case atStart => exact ⟨0, rfl, Nat.zero_le _, rfl, fun j hj => by omega⟩
          case round =>
            obtain ⟨k, rfl, hk', rfl, hK⟩ := hrel
            have hgek : (0 : Int) ≤ k := by omega
            by_cases hkn : k < M i
            · have hltk : (k : Int) < M i := by omega
              obtain ⟨blk2, off2, rfl, hbl2, hc2⟩ := (unhide hrow) k hkn
              by_cases hx : D i k < 0 ∨ 1000 < D i k
              · have d3 : decide (D i k < 0) = true ∨ (decide (D i k < 0) = false ∧ decide (1000 < D i k) = true) := by simp; omega
                have hr := hide ((unhide R2) ((unhide H2).2 (Or.inr (Or.inr (Or.inr (Or.inl ⟨i, hin, k, hkn, hx⟩))))))
                clear R2 R3 R0 H2 HS H3 A1 hx hD hS hK
                generalize D i k = x at *
                generalize M i = l at *
                rcases d3 with d3 | ⟨d3, d4⟩
                all_goals
                  go_wp2
                  go_ret
                  exact ⟨2, rfl, unhide hr, unhide F1⟩
              · have d3 : decide (D i k < 0) = false := by simp; omega
                have d4 : decide (1000 < D i k) = false := by simp; omega
                have hN := hide (lt_next (p := fun j => 0 ≤ D i j ∧ D i j ≤ 1000) (unhide hK) (by omega))
                clear R2 R3 R0 H2 HS H3 A1 hx hD hS hK
                generalize D i k = x at *
                generalize M i = l at *
                go_wp2
                go_roundw
                case rel => exact ⟨k + 1, by go_num, by omega, (by first | rfl | trivial), hN⟩
                case measure => simp [RowKit.intOf]; omega
            · have hltk : ¬ (k : Int) < M i := by omega
              have hD2 := hide (lt_next (p := fun j => ∀ k, k < M j → 0 ≤ D j k ∧ D j k ≤ 1000) (unhide hD) (fun j hj => (unhide hK) j (by omega)))
              clear hD hK hrow
              by_cases hM : M i = n
              · have hS2 : Hid (sh = true ↔ m = n ∧ ∀ j, j < i + 1 → M j = n) := (unhide hS).trans ⟨fun ⟨h1, h2⟩ => ⟨h1, lt_next h2 hM⟩, fun ⟨h1, h2⟩ => ⟨h1, fun j hj => h2 j (by omega)⟩⟩
                have e1 : ((M i : Int) != n) = false := by simp [hM]
                clear hS hM
                generalize M i = l at *
                go_wp2
                go_roundw
                case rel => exact ⟨sh, i + 1, rfl, by go_num, by omega, (by first | rfl | trivial), hD2, hS2⟩
                case measure => simp [RowKit.intOf]; omega
              · have hS2 : Hid ((false : Bool) = true ↔ m = n ∧ ∀ j, j < i + 1 → M j = n) := Iff.intro (fun h => by cases h) (fun h => absurd (h.2 i (by omega)) hM)
                have e1 : ((M i : Int) != n) = true := by simp; omega
                clear hS
                generalize M i = l at *
                go_wp2
                go_roundw
                case rel => exact ⟨false, i + 1, rfl, by go_num, by omega, (by first | rfl | trivial), hD2, hS2⟩
                case measure => simp [RowKit.intOf]; omega
        · have hlt : ¬ (i : Int) < m := by omega
          obtain rfl : m = i := by omega
          clear hin hi'
          have hD2 := hide (show ¬ ∃ i', i' < m ∧ ∃ k, k < M i' ∧ (D i' k < 0 ∨ 1000 < D i' k) from fun ⟨j, k1, k, k2, k3⟩ => by have := (unhide hD) j k1 k k2; omega)
          clear hD
          by_cases hx : mn < 0 ∨ lw < mn ∨ hi < lw
          · have hr := hide ((unhide R2) ((unhide H2).2 (Or.inr (Or.inr (Or.inr (Or.inr hx))))))
            have d : decide (mn < 0) = true ∨ (decide (mn < 0) = false ∧ decide (lw < mn) = true) ∨ (decide (mn < 0) = false ∧ decide (lw < mn) = false ∧ decide (hi < lw) = true) := by simp; omega
            clear R2 R3 R0 H2 HS H3 A1 hx hD2 hS hP2
            rcases d with d3 | ⟨d3, d4⟩ | ⟨d3, d4, d5⟩
            all_goals
              go_wp2
              go_ret
              exact ⟨2, rfl, unhide hr, unhide F1⟩
          · have d3 : decide (mn < 0) = false := by simp; omega
            have d4 : decide (lw < mn) = false := by simp; omega
            have d5 : decide (hi < lw) = false := by simp; omega
            have hB2 := hide (show ¬ B2 from fun h => by
              rcases (unhide H2).1 h with h | h | h | h | h
              · omega
              · omega
              · exact (unhide hP2) h
              · exact (unhide hD2) h
              · exact hx h)
            clear R2 H2 hx hD2 hP2
            by_cases hsh : SH
            · have hs2 := (unhide HS).1 hsh
              obtain rfl : sh = true := (unhide hS).2 hs2
              obtain ⟨rfl, hMn⟩ := hs2
              have hMn := hide hMn
              have R0 := hide ((unhide R0) (unhide hB2) hsh)
              have R3 := hide (fun h => (unhide R3) (unhide hB2) (Or.inr h))
              have hbx : w.heap.size < W.heap.size := hbx0
              have KB := hide (fun wr (hb : Below W.heap.size W wr) => ((hb.cell (p := ⟨w.heap.size, 1, none⟩) hbx).trans b1 : wr.cell? ⟨w.heap.size, 1, none⟩ = some (.slice q m qc)))
              have F0 := hide (Below.refl W.heap.size W)
              clear HS hS hsh hB2
              go_wp2_with fail
              clear b1 b2 b3 b4
              go_loopw [8] (fun a wr => ∃ i : Nat, a = .int .i64 i ∧ i ≤ m ∧ Hid (Below W.heap.size W wr) ∧ Hid (∀ j, j < i → ∀ k, k < m → j ≠ k → D j j < D j k)) (fun a _ => m - (RowKit.intOf a).toNat)
              case atStart => exact ⟨0, rfl, Nat.zero_le _, F0, fun j hj => by omega⟩
              case round =>
                obtain ⟨i, rfl, hi', hB, hI⟩ := hrel
                have b1 := (unhide KB) _ (unhide hB)
                have hge : (0 : Int) ≤ i := by omega
                by_cases hin : i < m
                · have hlt : (i : Int) < m := by omega
                  have hMi := (unhide hMn) i hin
                  have hMi2 : (M i : Int) = m := by omega
                  go_wp2_with fail
                  go_loopw [9] (fun a wr => ∃ k : Nat, a = .int .i64 k ∧ k ≤ m ∧ Hid (Below W.heap.size W wr) ∧ Hid (∀ j, j < k → i ≠ j → D i i < D i j)) (fun a _ => m - (RowKit.intOf a).toNat)
                  case atStart => exact ⟨0, rfl, Nat.zero_le _, hB, fun j hj => by omega⟩
                  case round =>
                    clear b1 hB
                    obtain ⟨k, rfl, hk', hB, hK⟩ := hrel
                    have b1 := (unhide KB) _ (unhide hB)
                    have hgek : (0 : Int) ≤ k := by omega
                    by_cases hkn : k < m
                    · have hltk : (k : Int) < m := by omega
                      obtain ⟨blk, off, pr, cc, rfl, hbl, hc, hrow, _⟩ := ((unhide A1).b (unhide hB)) i hin
                      obtain ⟨blk2, off2, rfl, hbl2, hcii⟩ := hrow i (by omega)
                      obtain ⟨blk3, off3, hp3, hbl3, hc3⟩ := hrow k (by omega)
                      simp only [Option.some.injEq, Addr.mk.injEq, and_true] at hp3
                      obtain ⟨rfl, rfl⟩ := hp3
                      have hiM : (i : Int) < M i := by omega
                      have hkM : (k : Int) < M i := by omega
                      by_cases hik : i = k
                      · have e1 : ((i : Int) != k) = false := by simp [hik]
                        have hN := hide (lt_next (p := fun j => i ≠ j → D i i < D i j) (unhide hK) (fun h => absurd hik h))
                        clear R3 R0 H3 hI hK hrow hMn hik
                        generalize D i k = x at *
                        generalize D i i = y at *
                        generalize M i = l at *
                        go_wp2_with fail
                        go_region
                        go_wp2
                        go_roundw
                        case rel => exact ⟨k + 1, by go_num, by omega, hide (btr (unhide hB) (drw _)), hN⟩
                        case measure => simp [RowKit.intOf]; omega
                      · have e1 : ((i : Int) != k) = true := by simp; omega
                        by_cases hx : D i k ≤ D i i
                        · have d6 : decide (D i k ≤ D i i) = true := by simpa using hx
                          have hr := hide ((unhide R3) ((unhide H3).2 ⟨i, hin, k, hkn, hik, hx⟩))
                          clear R3 R0 H3 hI hK hrow hMn hik hx
                          generalize D i k = x at *
                          generalize D i i = y at *
                          generalize M i = l at *
                          go_wp2_with fail
                          go_region
                          go_wp2
                          go_ret
                          exact ⟨3, rfl, unhide hr, btr (unhide F1) (btr (unhide hB) (drw _))⟩
                        · have d6 : decide (D i k ≤ D i i) = false := by simpa using hx
                          have hN := hide (lt_next (p := fun j => i ≠ j → D i i < D i j) (unhide hK) (fun _ => by omega))
                          clear R3 R0 H3 hI hK hrow hMn hik hx
                          generalize D i k = x at *
                          generalize D i i = y at *
                          generalize M i = l at *
                          go_wp2_with fail
                          go_region
                          go_wp2
                          go_roundw
                          case rel => exact ⟨k + 1, by go_num, by omega, hide (btr (unhide hB) (drw _)), hN⟩
                          case measure => simp [RowKit.intOf]; omega
                    · have hltk : ¬ (k : Int) < m := by omega
                      have hI2 := hide (lt_next (p := fun j => ∀ k, k < m → j ≠ k → D j j < D j k) (unhide hI) (fun j hj => (unhide hK) j (by omega)))
                      clear hI hK
                      go_wp2
                      go_roundw
                      case rel => exact ⟨i + 1, by go_num, by omega, hB, hI2⟩
                      case measure => simp [RowKit.intOf]; omega
                · have hlt : ¬ (i : Int) < m := by omega
                  have hr := hide ((unhide R0) (fun h => by
                    obtain ⟨j, k1, k, k2, k3, k4⟩ := (unhide H3).1 h
                    have := (unhide hI) j (by omega) k k2 k3
                    omega))
                  clear R3 R0 H3 hI
                  go_wp2
                  go_ret
                  exact ⟨0, rfl, unhide hr, btr (unhide F1) (unhide hB)⟩
            · obtain rfl : sh = false := by
                cases sh
                · rfl
                · exact absurd ((unhide HS).2 ((unhide hS).1 rfl)) hsh
              have hr := hide ((unhide R3) (unhide hB2) (Or.inl hsh))
              clear R3 R0 HS hS hsh hB2 H3 A1
              go_wp2
              go_ret
              exact ⟨3, rfl, unhide hr, unhide F1⟩
end Zn
end Go.Proofs.YtcbmfakjfoggaaaGreatDoor
