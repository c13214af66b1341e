/- V1 · V2. -/
import Derived.Test.YtfefehkapffljaaGreatDoorGK
import Derived.Deep.RegionLaw
import Derived.Laws.EntriesVeiled
namespace Go.Proofs.YtfefehkapffljaaGreatDoor
open Go.RowKit
namespace Dz
open Fr Bd Zn
def Fst (p : Nat → Bool) (n : Nat) (r : Int) : Prop := (r = -1 ∧ ∀ j, j < n → p j = false) ∨ ∃ i : Nat, i < n ∧ r = i ∧ p i = true ∧ ∀ j, j < i → p j = false
theorem Fst.has {p : Nat → Bool} {n : Nat} {r : Int} (h : Fst p n r) : decide (0 ≤ r) = (List.range n).any p := by
 rcases h with ⟨rfl, h⟩ | ⟨i, hi, rfl, hp, _⟩
 · have : (List.range n).any p = false := by simp; exact h
   rw [this]; rfl
 · have : (List.range n).any p = true := by simp; exact ⟨i, hi, hp⟩
   rw [this]; simp
theorem next_no {p : Nat → Bool} {i : Nat} (h : ∀ j, j < i → p j = false) (hi : p i = false) : ∀ j, j < i + 1 → p j = false := fun j hj => by
 by_cases e : j = i
 · subst e; exact hi
 · exact h j (by omega)
set_option maxHeartbeats 1000000 in
theorem idx_ints (q : Option Addr) (n c : Nat) (z : Nat → Int) (g : Nat) (lb : Array Value) (p : Nat → Bool) (eg : ∀ args w, (callFunc g args).run Tryz.prog w = .ok (.enter g args) w) (w : World)
   (hz : Nums w q n z) (hn : n ≤ 1000) (hp : ∀ i, i < n → ∀ W, Below w.heap.size w W → Calls Tryz.prog g (#[.int .i64 (z i)] ++ lb) W fun ev W' => ev = .returned (.bool (p i)) ∧ Below w.heap.size w W') :
   Calls Tryz.prog 76 #[.slice q n c, .func (.func g) #[] lb] w fun ev w' => ∃ r : Int, ev = .returned (.int .i64 r) ∧ Fst p n r ∧ Below w.heap.size w w' := by
 have HP := hide hp
 clear hp
 go_enter Tryz.func76, Tryz.ntmps76
 go_wp2
 go_loopw [8] (fun s wr => ∃ i : Nat, s = .int .i64 i ∧ i ≤ n ∧ Below w.heap.size w wr ∧ Hid (∀ j, j < i → p j = false)) (fun s _ => n - (RowKit.intOf s).toNat)
 case atStart => exact ⟨0, rfl, Nat.zero_le _, Below.refl _ _, fun j hj => by omega⟩
 case round =>
   obtain ⟨i, rfl, hi, hb, ha⟩ := hrel
   by_cases hin : i < n
   · obtain ⟨blk, off, rfl, hbl, hc⟩ := hz i hin
     have hc2 := (hb.cell (p := ⟨blk, off + i, none⟩) hbl).trans hc
     have hcall := (unhide HP) i hin wr hb
     clear hc hbl
     generalize z i = y at hc2 hcall
     cases hq : p i with
     | true =>
       have HA := hide (show (∃ i' : Nat, i' < n ∧ ((i : Int)) = i' ∧ p i' = true ∧ ∀ j, j < i' → p j = false) from ⟨i, hin, rfl, hq, unhide ha⟩)
       rw [hq] at hcall
       have HC := hide hcall
       clear hcall ha hq
       go_wp2_with (go_at_fn g; refine (unhide HC).mono ?_; rintro e w' ⟨rfl, hb'⟩)
       go_ret
       exact ⟨_, rfl, Or.inr (unhide HA), hb'⟩
     | false =>
       have HA := hide (next_no (unhide ha) hq)
       rw [hq] at hcall
       have HC := hide hcall
       clear hcall ha hq
       go_wp2_with (go_at_fn g; refine (unhide HC).mono ?_; rintro e w' ⟨rfl, hb'⟩)
       go_roundw
       case rel => exact ⟨i + 1, by go_num, by omega, hb', HA⟩
       case measure => simp [RowKit.intOf]; omega
   · have hin2 : i = n := by omega
     subst hin2
     go_wp2
     go_ret
     exact ⟨_, rfl, Or.inl ⟨rfl, unhide ha⟩, hb⟩
theorem has_ints (q : Option Addr) (n c : Nat) (z : Nat → Int) (g : Nat) (lb : Array Value) (p : Nat → Bool) (eg : ∀ args w, (callFunc g args).run Tryz.prog w = .ok (.enter g args) w) (w : World)
   (hz : Nums w q n z) (hn : n ≤ 1000) (hp : ∀ i, i < n → ∀ W, Below w.heap.size w W → Calls Tryz.prog g (#[.int .i64 (z i)] ++ lb) W fun ev W' => ev = .returned (.bool (p i)) ∧ Below w.heap.size w W') :
   Calls Tryz.prog 79 #[.slice q n c, .func (.func g) #[] lb] w fun ev w' => ev = .returned (.bool ((List.range n).any p)) ∧ Below w.heap.size w w' := by
 have H := hide (idx_ints q n c z g lb p eg w hz hn hp)
 have H2 := hide (fun r (h : Fst p n r) => h.has)
 clear hp hz
 generalize (List.range n).any p = d at *
 go_enter Tryz.func79, Tryz.ntmps79
 go_wp2_with fail
 refine (unhide H).mono ?_
 rintro ev w' ⟨r, rfl, hr, hb'⟩
 have hd := (unhide H2) r hr
 clear hr
 go_wp2_with fail
 go_ret
 exact ⟨by rw [← hd]; rfl, hb'⟩
set_option maxHeartbeats 1000000 in
theorem idx_lists (q : Option Addr) (n c : Nat) (M : Nat → Nat) (D : Nat → Nat → Int) (g : Nat) (lb : Array Value) (p : Nat → Bool) (eg : ∀ args w, (callFunc g args).run Tryz.prog w = .ok (.enter g args) w) (w : World)
   (hz : Rows2 w q n M D) (hn : n ≤ 1000) (hp : ∀ i, i < n → ∀ W, Below w.heap.size w W → ∀ pr c, Nums W pr (M i) (D i) → Calls Tryz.prog g (#[.slice pr (M i) c] ++ lb) W fun ev W' => ev = .returned (.bool (p i)) ∧ Below w.heap.size w W') :
   Calls Tryz.prog 180 #[.slice q n c, .func (.func g) #[] lb] w fun ev w' => ∃ r : Int, ev = .returned (.int .i64 r) ∧ Fst p n r ∧ Below w.heap.size w w' := by
 have HP := hide hp
 clear hp
 go_enter Tryz.func180, Tryz.ntmps180
 go_wp2
 go_loopw [8] (fun s wr => ∃ i : Nat, s = .int .i64 i ∧ i ≤ n ∧ Below w.heap.size w wr ∧ Hid (∀ j, j < i → p j = false)) (fun s _ => n - (RowKit.intOf s).toNat)
 case atStart => exact ⟨0, rfl, Nat.zero_le _, Below.refl _ _, fun j hj => by omega⟩
 case round =>
   obtain ⟨i, rfl, hi, hb, ha⟩ := hrel
   by_cases hin : i < n
   · obtain ⟨blk, off, pr, cc, rfl, hbl, hc, hnm, _⟩ := hz i hin
     have hc2 := (hb.cell (p := ⟨blk, off + i, none⟩) hbl).trans hc
     have hcall := (unhide HP) i hin wr hb pr cc (hnm.b hb)
     clear hc hbl hnm
     generalize M i = y at hc2 hcall
     cases hq : p i with
     | true =>
       have HA := hide (show (∃ i' : Nat, i' < n ∧ ((i : Int)) = i' ∧ p i' = true ∧ ∀ j, j < i' → p j = false) from ⟨i, hin, rfl, hq, unhide ha⟩)
       rw [hq] at hcall
       have HC := hide hcall
       clear hcall ha hq
       go_wp2_with (go_at_fn g; refine (unhide HC).mono ?_; rintro e w' ⟨rfl, hb'⟩)
       go_ret
       exact ⟨_, rfl, Or.inr (unhide HA), hb'⟩
     | false =>
       have HA := hide (next_no (unhide ha) hq)
       rw [hq] at hcall
       have HC := hide hcall
       clear hcall ha hq
       go_wp2_with (go_at_fn g; refine (unhide HC).mono ?_; rintro e w' ⟨rfl, hb'⟩)
       go_roundw
       case rel => exact ⟨i + 1, by go_num, by omega, hb', HA⟩
       case measure => simp [RowKit.intOf]; omega
   · have hin2 : i = n := by omega
     subst hin2
     go_wp2
     go_ret
     exact ⟨_, rfl, Or.inl ⟨rfl, unhide ha⟩, hb⟩
theorem has_lists (q : Option Addr) (n c : Nat) (M : Nat → Nat) (D : Nat → Nat → Int) (g : Nat) (lb : Array Value) (p : Nat → Bool) (eg : ∀ args w, (callFunc g args).run Tryz.prog w = .ok (.enter g args) w) (w : World)
   (hz : Rows2 w q n M D) (hn : n ≤ 1000) (hp : ∀ i, i < n → ∀ W, Below w.heap.size w W → ∀ pr c, Nums W pr (M i) (D i) → Calls Tryz.prog g (#[.slice pr (M i) c] ++ lb) W fun ev W' => ev = .returned (.bool (p i)) ∧ Below w.heap.size w W') :
   Calls Tryz.prog 156 #[.slice q n c, .func (.func g) #[] lb] w fun ev w' => ev = .returned (.bool ((List.range n).any p)) ∧ Below w.heap.size w w' := by
 have H := hide (idx_lists q n c M D g lb p eg w hz hn hp)
 have H2 := hide (fun r (h : Fst p n r) => h.has)
 clear hp hz
 generalize (List.range n).any p = d at *
 go_enter Tryz.func156, Tryz.ntmps156
 go_wp2_with fail
 refine (unhide H).mono ?_
 rintro ev w' ⟨r, rfl, hr, hb'⟩
 have hd := (unhide H2) r hr
 clear hr
 go_wp2_with fail
 go_ret
 exact ⟨by rw [← hd]; rfl, hb'⟩
set_option maxHeartbeats 1000000 in
theorem idx_blocks (q : Option Addr) (L : List Bl) (n c : Nat) (g : Nat) (lb : Array Value) (p : Nat → Bool) (eg : ∀ args w, (callFunc g args).run Tryz.prog w = .ok (.enter g args) w) (w : World)
   (hl : L.length = n) (hz : L ≠ [] → ∃ g', q = some ⟨g', 0, none⟩ ∧ Row w g' L) (hn : n ≤ 1000) (hp : ∀ i, i < n → ∀ W, Below w.heap.size w W → Calls Tryz.prog g (#[blkV (L.getD i (0, 0)).1 (L.getD i (0, 0)).2] ++ lb) W fun ev W' => ev = .returned (.bool (p i)) ∧ Below w.heap.size w W') :
   Calls Tryz.prog 130 #[.slice q n c, .func (.func g) #[] lb] w fun ev w' => ∃ r : Int, ev = .returned (.int .i64 r) ∧ Fst p n r ∧ Below w.heap.size w w' := by
 have HP := hide hp
 clear hp
 go_enter Tryz.func130, Tryz.ntmps130
 go_wp2
 go_loopw [8] (fun s wr => ∃ i : Nat, s = .int .i64 i ∧ i ≤ n ∧ Below w.heap.size w wr ∧ Hid (∀ j, j < i → p j = false)) (fun s _ => n - (RowKit.intOf s).toNat)
 case atStart => exact ⟨0, rfl, Nat.zero_le _, Below.refl _ _, fun j hj => by omega⟩
 case round =>
   obtain ⟨i, rfl, hi, hb, ha⟩ := hrel
   by_cases hin : i < n
   · obtain ⟨g', rfl, hR⟩ := hz (fun e => by rw [e] at hl; simp at hl; omega)
     obtain ⟨c1, c2⟩ := (hR.b hb).c i (by omega)
     have hcall := (unhide HP) i hin wr hb
     unfold blkV at hcall
     clear hR
     generalize (L.getD i (0, 0)).1 = y1 at c1 hcall
     generalize (L.getD i (0, 0)).2 = y2 at c2 hcall
     cases hq : p i with
     | true =>
       have HA := hide (show (∃ i' : Nat, i' < n ∧ ((i : Int)) = i' ∧ p i' = true ∧ ∀ j, j < i' → p j = false) from ⟨i, hin, rfl, hq, unhide ha⟩)
       rw [hq] at hcall
       have HC := hide hcall
       clear hcall ha hq
       go_wp2_with (go_at_fn g; refine (unhide HC).mono ?_; rintro e w' ⟨rfl, hb'⟩)
       go_ret
       exact ⟨_, rfl, Or.inr (unhide HA), hb'⟩
     | false =>
       have HA := hide (next_no (unhide ha) hq)
       rw [hq] at hcall
       have HC := hide hcall
       clear hcall ha hq
       go_wp2_with (go_at_fn g; refine (unhide HC).mono ?_; rintro e w' ⟨rfl, hb'⟩)
       go_roundw
       case rel => exact ⟨i + 1, by go_num, by omega, hb', HA⟩
       case measure => simp [RowKit.intOf]; omega
   · have hin2 : i = n := by omega
     subst hin2
     go_wp2
     go_ret
     exact ⟨_, rfl, Or.inl ⟨rfl, unhide ha⟩, hb⟩
theorem has_blocks (q : Option Addr) (L : List Bl) (n c : Nat) (g : Nat) (lb : Array Value) (p : Nat → Bool) (eg : ∀ args w, (callFunc g args).run Tryz.prog w = .ok (.enter g args) w) (w : World)
   (hl : L.length = n) (hz : L ≠ [] → ∃ g', q = some ⟨g', 0, none⟩ ∧ Row w g' L) (hn : n ≤ 1000) (hp : ∀ i, i < n → ∀ W, Below w.heap.size w W → Calls Tryz.prog g (#[blkV (L.getD i (0, 0)).1 (L.getD i (0, 0)).2] ++ lb) W fun ev W' => ev = .returned (.bool (p i)) ∧ Below w.heap.size w W') :
   Calls Tryz.prog 73 #[.slice q n c, .func (.func g) #[] lb] w fun ev w' => ev = .returned (.bool ((List.range n).any p)) ∧ Below w.heap.size w w' := by
 have H := hide (idx_blocks q L n c g lb p eg w hl hz hn hp)
 have H2 := hide (fun r (h : Fst p n r) => h.has)
 clear hp hz hl
 generalize (List.range n).any p = d at *
 go_enter Tryz.func73, Tryz.ntmps73
 go_wp2_with fail
 refine (unhide H).mono ?_
 rintro ev w' ⟨r, rfl, hr, hb'⟩
 have hd := (unhide H2) r hr
 clear hr
 go_wp2_with fail
 go_ret
 exact ⟨by rw [← hd]; rfl, hb'⟩
end Dz
end Go.Proofs.YtfefehkapffljaaGreatDoor
namespace Go.Proofs.YtfefehkapffljaaGreatDoor
open Go.RowKit
namespace Dz
open Fr Bd Zn
def out (lo hi n : Int) : Bool := decide (n < lo) || decide (n > hi)
def Out (w : World) (lb : Array Value) (lo hi : Int) : Prop := ∃ b0 b1, lb = #[.pointer (some ⟨b0, 0, none⟩), .pointer (some ⟨b1, 0, none⟩)] ∧ w.cell? ⟨b0, 0, none⟩ = some (.int .i64 lo) ∧ w.cell? ⟨b1, 0, none⟩ = some (.int .i64 hi) ∧ b0 < w.heap.size ∧ b1 < w.heap.size
theorem Out.b {w w' : World} {lb : Array Value} {lo hi : Int} (h : Out w lb lo hi) (hb : Below w.heap.size w w') : Out w' lb lo hi := by
 obtain ⟨b0, b1, rfl, c0, c1, l0, l1⟩ := h
 exact ⟨b0, b1, rfl, (hb.cell (p := ⟨b0, 0, none⟩) l0).trans c0, (hb.cell (p := ⟨b1, 0, none⟩) l1).trans c1, Nat.lt_of_lt_of_le l0 hb.size, Nat.lt_of_lt_of_le l1 hb.size⟩
theorem out1_ok (lb : Array Value) (lo hi n : Int) (w : World) (h : Out w lb lo hi) :
   Calls Tryz.prog 179 (#[.int .i64 n] ++ lb) w fun ev w' => ev = .returned (.bool (out lo hi n)) ∧ Below w.heap.size w w' := by
 obtain ⟨b0, b1, rfl, c0, c1, _, _⟩ := h
 simp only [List.append_toArray, List.cons_append, List.nil_append]
 unfold out
 cases h1 : decide (n < lo)
 · cases h2 : decide (n > hi)
   · go_enter Tryz.func179, Tryz.ntmps179
     go_wp2
     go_ret
     exact ⟨rfl, Below.refl _ _⟩
   · go_enter Tryz.func179, Tryz.ntmps179
     go_wp2
     go_ret
     exact ⟨rfl, Below.refl _ _⟩
 · go_enter Tryz.func179, Tryz.ntmps179
   go_wp2
   go_ret
   exact ⟨rfl, Below.refl _ _⟩
theorem outside_ok (lo hi : Int) (w : World) :
   Calls Tryz.prog 155 #[.int .i64 lo, .int .i64 hi] w fun ev w' => ∃ lb, ev = .returned (.func (.func 179) #[] lb) ∧ Out w' lb lo hi ∧ Below w.heap.size w w' := by
 go_enter Tryz.func155, Tryz.ntmps155
 go_wp2
 go_ret
 exact ⟨_, rfl, ⟨_, _, rfl, by simp, by simp, by simp; omega, by simp⟩, ballo (ballo (Below.refl _ _) _) _⟩
theorem eg114 : ∀ args w, (callFunc 179 args).run Tryz.prog w = .ok (.enter 179 args) w := enters_of Tryz.func179 (by kernel_rfl) rfl
theorem eg96 : ∀ args w, (callFunc 157 args).run Tryz.prog w = .ok (.enter 157 args) w := enters_of Tryz.func157 (by kernel_rfl) rfl
theorem inb1_ok (lb : Array Value) (tb : Nat) (pr : Option Addr) (m c : Nat) (z : Nat → Int) (w : World) (hc : w.cell? ⟨tb, 0, none⟩ = some (.func (.func 179) #[] lb)) (h : Out w lb 0 1000) (hz : Nums w pr m z) (hm : m ≤ 1000) :
   Calls Tryz.prog 157 (#[.slice pr m c] ++ #[.pointer (some ⟨tb, 0, none⟩)]) w fun ev w' => ev = .returned (.bool ((List.range m).any fun i => out 0 1000 (z i))) ∧ Below w.heap.size w w' := by
 have H := hide (has_ints pr m c z 179 lb (fun i => out 0 1000 (z i)) eg114 w hz hm (fun i _ W hW => out1_ok lb 0 1000 (z i) W (h.b hW) |>.mono fun e w' hh => ⟨hh.1, btr hW hh.2⟩))
 clear h hz
 simp only [List.append_toArray, List.cons_append, List.nil_append]
 generalize (List.range m).any (fun i => out 0 1000 (z i)) = d at *
 go_enter Tryz.func157, Tryz.ntmps157
 go_wp2_with fail
 refine (unhide H).mono ?_
 rintro ev w' ⟨rfl, hb'⟩
 go_wp2_with fail
 go_ret
 exact ⟨rfl, hb'⟩
def inB (c : Cf) : Bool := !(out 1 4 c.n) && (!((List.range c.n).any fun i => out 1 256 (c.P i)) && (!((List.range c.m).any fun i => (List.range (c.M i)).any fun k => out 0 1000 (c.D i k)) && (decide (0 ≤ c.mn) && decide (c.mn ≤ c.lw) && decide (c.lw ≤ c.hi))))
theorem inB_iff (c : Cf) : inB c = true ↔ ¬ c.bad2 := by
 unfold inB Cf.bad2 out
 simp only [Bool.and_eq_true, Bool.not_eq_true', Bool.or_eq_false_iff, decide_eq_false_iff_not, List.any_eq_false, List.mem_range, Bool.or_eq_true, decide_eq_true_eq, List.any_eq_true]
 constructor
 · rintro ⟨⟨h1, h2⟩, h3, h4, ⟨h5, h6⟩, h7⟩ hh
   rcases hh with h | h | ⟨i, hi, h⟩ | ⟨i, hi, k, hk, h⟩ | h | h | h
   · omega
   · omega
   · exact h3 i hi (by omega)
   · exact h4 i hi ⟨k, hk, by omega⟩
   · omega
   · omega
   · omega
 · intro h
   refine ⟨⟨fun a => h (Or.inl (by omega)), fun a => h (Or.inr (Or.inl (by omega)))⟩, fun i hi a => h (Or.inr (Or.inr (Or.inl ⟨i, hi, by omega⟩))), fun i hi ⟨k, hk, a⟩ => h (Or.inr (Or.inr (Or.inr (Or.inl ⟨i, hi, k, hk, by omega⟩)))), ⟨?_, ?_⟩, ?_⟩
   · exact Int.not_lt.1 fun a => h (Or.inr (Or.inr (Or.inr (Or.inr (Or.inl a)))))
   · exact Int.not_lt.1 fun a => h (Or.inr (Or.inr (Or.inr (Or.inr (Or.inr (Or.inl a))))))
   · exact Int.not_lt.1 fun a => h (Or.inr (Or.inr (Or.inr (Or.inr (Or.inr (Or.inr a))))))
set_option maxHeartbeats 4000000 in
theorem inb_ok (c : Cf) (p q : Option Addr) (pc qc : Nat) (w : World) (h : At w c p q) (hwd : ¬ c.wide) :
   Calls Tryz.prog 107 #[cfV c p pc q qc] w fun ev w' => ev = .returned (.bool (inB c)) ∧ Below w.heap.size w w' := by
 unfold cfV
 have BX := box_new w c p q pc qc 36
 have F1 := ballo (Below.refl w.heap.size w) (.cells #[.slice p c.n pc, .slice q c.m qc, .int .i64 c.mn, .int .i64 c.lw, .int .i64 c.hi] 36)
 have A1 := h.b F1
 have hwn : c.n ≤ 20 := Nat.le_of_not_lt fun h => hwd (Or.inl h)
 have hwm : c.m ≤ 20 := Nat.le_of_not_lt fun h => hwd (Or.inr (Or.inl h))
 have hwM : ∀ i, i < c.m → c.M i ≤ 20 := fun i hi => Nat.le_of_not_lt fun h => hwd (Or.inr (Or.inr ⟨i, hi, h⟩))
 have HP := hide (fun w (h : Nums w p c.n c.P) (lb : Array Value) (ho : Out w lb 1 256) => has_ints p c.n pc c.P 179 lb (fun i => out 1 256 (c.P i)) eg114 w h (by omega) (fun i _ W hW => out1_ok lb 1 256 (c.P i) W (ho.b hW) |>.mono fun e w' hh => ⟨hh.1, btr hW hh.2⟩))
 have HD := hide (fun w (h : Rows2 w q c.m c.M c.D) (lb : Array Value) (tb : Nat) (hc : w.cell? ⟨tb, 0, none⟩ = some (.func (.func 179) #[] lb)) (hl : tb < w.heap.size) (ho : Out w lb 0 1000) => has_lists q c.m qc c.M c.D 157 #[.pointer (some ⟨tb, 0, none⟩)] (fun i => (List.range (c.M i)).any fun k => out 0 1000 (c.D i k)) eg96 w h (by omega) (fun i hi W hW pr cc hn => inb1_ok lb tb pr (c.M i) cc (c.D i) W ((hW.cell (p := ⟨tb, 0, none⟩) hl).trans hc) (ho.b hW) hn (by have := hwM i hi; omega) |>.mono fun e w' hh => ⟨hh.1, btr hW hh.2⟩))
 have HI : Hid (inB c = (!(out 1 4 c.n) && (!((List.range c.n).any fun i => out 1 256 (c.P i)) && (!((List.range c.m).any fun i => (List.range (c.M i)).any fun k => out 0 1000 (c.D i k)) && (decide (0 ≤ c.mn) && decide (c.mn ≤ c.lw) && decide (c.lw ≤ c.hi)))))) := rfl
 have HO := hide (fun lb w h => out1_ok lb 1 4 c.n w h)
 clear h hwd hwn hwm hwM
 rw [unhide HI]
 clear HI
 generalize (List.range c.n).any (fun i => out 1 256 (c.P i)) = x2 at *
 generalize (List.range c.m).any (fun i => (List.range (c.M i)).any fun k => out 0 1000 (c.D i k)) = x3 at *
 generalize out 1 4 c.n = x1 at *
 obtain ⟨n, P, m, M, D, mn, lw, hi⟩ := c
 simp only at *
 go_enter Tryz.func107, Tryz.ntmps107
 go_wp2_with fail
 generalize w.alloc (.cells #[.slice p n pc, .slice q m qc, .int .i64 mn, .int .i64 lw, .int .i64 hi] 36) = W at *
 have b0 := BX.c0
 have b1 := BX.c1
 have b2 := BX.c2
 have b3 := BX.c3
 have b4 := BX.c4
 have hbl := BX.lt
 simp only at b0 b1 b2 b3 b4
 have KC := hide (fun w1 (hb : Below W.heap.size W w1) => (hb.cell (p := ⟨w.heap.size, 0, none⟩) hbl).trans b0)
 have KF := hide (fun w1 (hb : Below W.heap.size W w1) => F1.trans (hb.mono F1.size))
 have KA := hide (fun w1 (hb : Below W.heap.size W w1) => A1.b hb)
 have KB := hide (fun w1 (hb : Below W.heap.size W w1) => show w1.cell? ⟨w.heap.size, 1, none⟩ = some (.slice q m qc) ∧ w1.cell? ⟨w.heap.size, 2, none⟩ = some (.int .i64 mn) ∧ w1.cell? ⟨w.heap.size, 3, none⟩ = some (.int .i64 lw) ∧ w1.cell? ⟨w.heap.size, 4, none⟩ = some (.int .i64 hi) from ⟨(hb.cell (p := ⟨w.heap.size, 1, none⟩) hbl).trans b1, (hb.cell (p := ⟨w.heap.size, 2, none⟩) hbl).trans b2, (hb.cell (p := ⟨w.heap.size, 3, none⟩) hbl).trans b3, (hb.cell (p := ⟨w.heap.size, 4, none⟩) hbl).trans b4⟩)
 clear A1 F1 BX b1 b2 b3 b4
 have tk : True := trivial
 have tk2 : True := trivial
 cases x1 with
 | true =>
   clear HP HD KA KB
   first
   | (go_region_law (first
     | (have _t := tk; go_simp; go_at_call 155; refine (outside_ok 1 4 _).mono ?_; rintro ev w2 ⟨lb, rfl, ho, b2⟩; have k2 : Below W.heap.size W w2 := bd b2; have c2 := (unhide KC) w2 k2; clear tk)
     | (go_simp; go_at_call 179; refine ((unhide HO) lb _ (by first | exact ho | exact ho.b (drw _))).mono ?_; rintro ev w3 ⟨rfl, b3'⟩; have k3 := k2.trans (b3'.mono k2.size))))
   | skip
   all_goals
     go_wp2
     go_ret
     exact ⟨rfl, (unhide KF) _ k3⟩
 | false =>
   cases x2 with
   | true =>
     clear HD KB
     first
     | (go_region_law (first
       | (have _t := tk; go_simp; go_at_call 155; refine (outside_ok 1 4 _).mono ?_; rintro ev w2 ⟨lb, rfl, ho, b2⟩; have k2 : Below W.heap.size W w2 := bd b2; have c2 := (unhide KC) w2 k2; clear tk)
       | (go_simp; go_at_call 179; refine ((unhide HO) lb _ (by first | exact ho | exact ho.b (drw _))).mono ?_; rintro ev w3 ⟨rfl, b3'⟩; have k3 := k2.trans (b3'.mono k2.size); have c3 := (unhide KC) w3 k3)
       | (have _t := tk2; go_simp; go_at_call 155; refine (outside_ok 1 256 _).mono ?_; rintro ev w4 ⟨lb4, rfl, ho4, b4'⟩; have k4 := k3.trans (b4'.mono k3.size); have c4 := (unhide KC) w4 k4; clear tk2)
       | (go_simp; go_at_call 79; refine ((unhide HP) w4 ((unhide KA) w4 k4).ps lb4 ho4).mono ?_; rintro ev w5 ⟨rfl, b5'⟩; have k5 := k4.trans (b5'.mono k4.size))))
     | skip
     all_goals
       go_wp2
       go_ret
       exact ⟨rfl, (unhide KF) _ k5⟩
   | false =>
     first
     | (go_region_law (first
       | (have _t := tk; go_simp; go_at_call 155; refine (outside_ok 1 4 _).mono ?_; rintro ev w2 ⟨lb, rfl, ho, b2⟩; have k2 : Below W.heap.size W w2 := bd b2; have c2 := (unhide KC) w2 k2; clear tk)
       | (go_simp; go_at_call 179; refine ((unhide HO) lb _ (by first | exact ho | exact ho.b (drw _))).mono ?_; rintro ev w3 ⟨rfl, b3'⟩; have k3 := k2.trans (b3'.mono k2.size); have c3 := (unhide KC) w3 k3)
       | (have _t := tk2; go_simp; go_at_call 155; refine (outside_ok 1 256 _).mono ?_; rintro ev w4 ⟨lb4, rfl, ho4, b4'⟩; have k4 := k3.trans (b4'.mono k3.size); have c4 := (unhide KC) w4 k4; clear tk2)
       | (go_simp; go_at_call 79; refine ((unhide HP) w4 ((unhide KA) w4 k4).ps lb4 ho4).mono ?_; rintro ev w5 ⟨rfl, b5'⟩; have k5 := k4.trans (b5'.mono k4.size))))
     | skip
     all_goals
       clear ho ho4 k2 k3 k4 c2 c3 c4 HP HO
       go_wp2_with fail
       refine (outside_ok 0 1000 _).mono ?_
       rintro ev w6 ⟨lb6, rfl, ho6, b6⟩
       have k6 := ballo (k5.trans (b6.mono k5.size)) (.cells #[.func (.func 179) #[] lb6] 78)
       have HX := hide ((unhide HD) _ ((unhide KA) _ k6).rs lb6 w6.heap.size (World.cell?_alloc_new w6 _ 78 0) (by simp) (ho6.b (ballo (Below.refl _ _) _)))
       have hb1 := ((unhide KB) _ k6).1
       clear ho6 HD
       go_wp2_with fail
       refine (unhide HX).mono ?_
       rintro ev w7 ⟨rfl, b7⟩
       have k7 := k6.trans (b7.mono k6.size)
       obtain ⟨_, y2, y3, y4⟩ := (unhide KB) _ k7
       have HF := hide ((unhide KF) _ k7)
       clear KB KC KF KA k5 b6 k6 b7 k7 HX hb1
       cases x3 with
       | true =>
         go_wp2
         go_ret
         exact ⟨rfl, unhide HF⟩
       | false =>
         by_cases e1 : 0 ≤ mn
         · have d1 : decide (0 ≤ mn) = true := by simpa using e1
           by_cases e2 : mn ≤ lw
           · have d2 : decide (mn ≤ lw) = true := by simpa using e2
             by_cases e3 : lw ≤ hi
             · have d3 : decide (lw ≤ hi) = true := by simpa using e3
               go_wp2
               go_ret
               exact ⟨by rw [d1, d2, d3]; rfl, unhide HF⟩
             · have d3 : decide (lw ≤ hi) = false := by simpa using e3
               go_wp2
               go_ret
               exact ⟨by rw [d1, d2, d3]; rfl, unhide HF⟩
           · have d2 : decide (mn ≤ lw) = false := by simpa using e2
             go_wp2
             go_ret
             exact ⟨by rw [d1, d2]; rfl, unhide HF⟩
         · have d1 : decide (0 ≤ mn) = false := by simpa using e1
           go_wp2
           go_ret
           exact ⟨by rw [d1]; rfl, unhide HF⟩
end Dz
end Go.Proofs.YtfefehkapffljaaGreatDoor
