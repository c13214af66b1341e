/- Z1 · Z2 · Z3. -/
import Derived.Test.YtfefehkapffljaaGreatDoorGJ
namespace Go.Proofs.YtfefehkapffljaaGreatDoor
open Go.RowKit
namespace Zn
open Fr Bd
def Nums (w : World) (p : Option Addr) (n : Nat) (z : Nat → Int) : Prop := ∀ i, i < n → ∃ blk off, p = some ⟨blk, off, none⟩ ∧ blk < w.heap.size ∧ w.cell? ⟨blk, off + i, none⟩ = some (.int .i64 (z i))
theorem Nums.b {w w' : World} {p : Option Addr} {n : Nat} {z : Nat → Int} (h : Nums w p n z) (hb : Below w.heap.size w w') : Nums w' p n z := fun i hi => by
 obtain ⟨blk, off, hp, hl, hc⟩ := h i hi
 exact ⟨blk, off, hp, Nat.lt_of_lt_of_le hl hb.size, (hb.cell (p := ⟨blk, off + i, none⟩) hl).trans hc⟩
def Rows2 (w : World) (q : Option Addr) (m : Nat) (M : Nat → Nat) (D : Nat → Nat → Int) : Prop := ∀ i, i < m → ∃ blk off pr c, q = some ⟨blk, off, none⟩ ∧ blk < w.heap.size ∧ w.cell? ⟨blk, off + i, none⟩ = some (.slice pr (M i) c) ∧ Nums w pr (M i) (D i) ∧ (pr = none → c = 0)
theorem Rows2.b {w w' : World} {q : Option Addr} {m : Nat} {M : Nat → Nat} {D : Nat → Nat → Int} (h : Rows2 w q m M D) (hb : Below w.heap.size w w') : Rows2 w' q m M D := fun i hi => by
 obtain ⟨blk, off, pr, c, hp, hl, hc, hn, h0⟩ := h i hi
 exact ⟨blk, off, pr, c, hp, Nat.lt_of_lt_of_le hl hb.size, (hb.cell (p := ⟨blk, off + i, none⟩) hl).trans hc, hn.b hb, h0⟩
structure Cf where
 n : Nat
 P : Nat → Int
 m : Nat
 M : Nat → Nat
 D : Nat → Nat → Int
 mn : Int
 lw : Int
 hi : Int
def Cf.wide (c : Cf) : Prop := 20 < c.n ∨ 20 < c.m ∨ ∃ i, i < c.m ∧ 20 < c.M i
def Cf.bad2 (c : Cf) : Prop := c.n < 1 ∨ 4 < c.n ∨ (∃ i, i < c.n ∧ (c.P i < 1 ∨ 256 < c.P i)) ∨ (∃ i, i < c.m ∧ ∃ k, k < c.M i ∧ (c.D i k < 0 ∨ 1000 < c.D i k)) ∨ c.mn < 0 ∨ c.lw < c.mn ∨ c.hi < c.lw
def Cf.shp (c : Cf) : Prop := c.m = c.n ∧ ∀ i, i < c.m → c.M i = c.n
def Cf.bad3 (c : Cf) : Prop := ∃ i, i < c.n ∧ ∃ k, k < c.n ∧ i ≠ k ∧ c.D i k ≤ c.D i i
def Cf.is (c : Cf) (e : Int) : Prop := (e = 2 ∧ c.bad2) ∨ (e = 3 ∧ ¬ c.bad2 ∧ (¬ c.shp ∨ c.bad3)) ∨ (e = 0 ∧ ¬ c.bad2 ∧ c.shp ∧ ¬ c.bad3)
theorem Cf.is_one {c : Cf} {e f : Int} (h : c.is e) (k : c.is f) : e = f := by
 unfold Cf.is at h k
 rcases h with ⟨h1, h2⟩ | ⟨h1, h2, h3⟩ | ⟨h1, h2, h3, h4⟩ <;> rcases k with ⟨k1, k2⟩ | ⟨k1, k2, k3⟩ | ⟨k1, k2, k3, k4⟩
 · omega
 · exact absurd h2 k2
 · exact absurd h2 k2
 · exact absurd k2 h2
 · omega
 · rcases h3 with h3 | h3
   · exact absurd k3 h3
   · exact absurd h3 k4
 · exact absurd k2 h2
 · rcases k3 with k3 | k3
   · exact absurd h3 k3
   · exact absurd k3 h4
 · omega
structure At (w : World) (c : Cf) (p q : Option Addr) : Prop where
 ps : Nums w p c.n c.P
 rs : Rows2 w q c.m c.M c.D
theorem At.b {w w' : World} {c : Cf} {p q : Option Addr} (h : At w c p q) (hb : Below w.heap.size w w') : At w' c p q := ⟨h.ps.b hb, h.rs.b hb⟩
def cfV (c : Cf) (p : Option Addr) (pc : Nat) (q : Option Addr) (qc : Nat) : Value := .agg #[.slice p c.n pc, .slice q c.m qc, .int .i64 c.mn, .int .i64 c.lw, .int .i64 c.hi]
structure Box (w : World) (b : Nat) (c : Cf) (p : Option Addr) (pc : Nat) (q : Option Addr) (qc : Nat) : Prop where
 c0 : w.cell? ⟨b, 0, none⟩ = some (.slice p c.n pc)
 c1 : w.cell? ⟨b, 1, none⟩ = some (.slice q c.m qc)
 c2 : w.cell? ⟨b, 2, none⟩ = some (.int .i64 c.mn)
 c3 : w.cell? ⟨b, 3, none⟩ = some (.int .i64 c.lw)
 c4 : w.cell? ⟨b, 4, none⟩ = some (.int .i64 c.hi)
 lt : b < w.heap.size
theorem Box.b {w w' : World} {b : Nat} {c : Cf} {p q : Option Addr} {pc qc : Nat} (h : Box w b c p pc q qc) (hb : Below w.heap.size w w') : Box w' b c p pc q qc :=
 ⟨(hb.cell (p := ⟨b, 0, none⟩) h.lt).trans h.c0, (hb.cell (p := ⟨b, 1, none⟩) h.lt).trans h.c1, (hb.cell (p := ⟨b, 2, none⟩) h.lt).trans h.c2, (hb.cell (p := ⟨b, 3, none⟩) h.lt).trans h.c3, (hb.cell (p := ⟨b, 4, none⟩) h.lt).trans h.c4, Nat.lt_of_lt_of_le h.lt hb.size⟩
theorem box_new (w : World) (c : Cf) (p q : Option Addr) (pc qc t : Nat) : Box (w.alloc (.cells #[.slice p c.n pc, .slice q c.m qc, .int .i64 c.mn, .int .i64 c.lw, .int .i64 c.hi] t)) w.heap.size c p pc q qc :=
 ⟨World.cell?_alloc_new w _ t 0, World.cell?_alloc_new w _ t 1, World.cell?_alloc_new w _ t 2, World.cell?_alloc_new w _ t 3, World.cell?_alloc_new w _ t 4, by simp⟩
set_option maxHeartbeats 2000000 in
theorem wide_ok (c : Cf) (p q : Option Addr) (pc qc : Nat) (w : World) (h : At w c p q) :
   Calls Tryz.prog 10 #[cfV c p pc q qc] w fun ev w' => ∃ e : Int, ev = .returned (.int .i64 e) ∧ (e = 1 ∧ c.wide ∨ e = 0 ∧ ¬ c.wide) ∧ Below w.heap.size w w' := by
 unfold cfV
 by_cases h1 : 20 < c.n ∨ 20 < c.m
 · have d1 : decide ((20 : Int) < c.n) = true ∨ (decide ((20 : Int) < c.n) = false ∧ decide ((20 : Int) < c.m) = true) := by simp; omega
   have hw : c.wide := by unfold Cf.wide; omega
   rcases d1 with d1 | ⟨d1, d2⟩
   all_goals
     go_enter Tryz.func10, Tryz.ntmps10
     go_wp2
     go_ret
     exact ⟨1, rfl, Or.inl ⟨rfl, hw⟩, ballo (Below.refl _ _) _⟩
 · have d1 : decide ((20 : Int) < c.n) = false := by simp; omega
   have d2 : decide ((20 : Int) < c.m) = false := by simp; omega
   have BX := box_new w c p q pc qc 27
   have F1 := ballo (Below.refl w.heap.size w) (.cells #[.slice p c.n pc, .slice q c.m qc, .int .i64 c.mn, .int .i64 c.lw, .int .i64 c.hi] 27)
   have A1 := h.rs.b F1
   have HW0 : ¬ (20 < c.n ∨ 20 < c.m) := h1
   have HC := hide (show c.wide ↔ (20 < c.n ∨ 20 < c.m ∨ ∃ i, i < c.m ∧ 20 < c.M i) from Iff.rfl)
   generalize c.wide = WD at *
   go_enter Tryz.func10, Tryz.ntmps10
   go_wp2_with fail
   generalize w.alloc (.cells #[.slice p c.n pc, .slice q c.m qc, .int .i64 c.mn, .int .i64 c.lw, .int .i64 c.hi] 27) = W at *
   have b1 := BX.c1
   obtain ⟨n, P, m, M, D, mn, lw, hi⟩ := c
   simp only at *
   go_loopw [3] (fun a wr => ∃ i : Nat, a = .int .i64 i ∧ i ≤ m ∧ wr = W ∧ Hid (∀ j, j < i → M j ≤ 20)) (fun a _ => m - (RowKit.intOf a).toNat)
   case atStart => exact ⟨0, rfl, Nat.zero_le _, rfl, fun j hj => by omega⟩
   case round =>
     obtain ⟨i, rfl, hi', rfl, hM⟩ := hrel
     have hge : (0 : Int) ≤ i := by omega
     by_cases hin : i < m
     · have hlt : (i : Int) < m := by omega
       obtain ⟨blk, off, pr, cc, rfl, hbl, hc, _⟩ := A1 i hin
       by_cases hl : 20 < M i
       · have d3 : decide ((20 : Int) < M i) = true := by simp; omega
         have hx := hide (show ∃ i, i < m ∧ 20 < M i from ⟨i, hin, hl⟩)
         generalize M i = l at *
         go_wp2
         go_ret
         exact ⟨1, rfl, by rw [unhide HC]; exact Or.inl ⟨rfl, Or.inr (Or.inr (unhide hx))⟩, F1⟩
       · have d3 : decide ((20 : Int) < M i) = false := by simp; omega
         have hx := hide (show ∀ j, j < i + 1 → M j ≤ 20 from fun j hj => by
           rcases Nat.lt_or_ge j i with h | h
           · exact (unhide hM) j h
           · obtain rfl : j = i := by omega
             omega)
         generalize M i = l at *
         go_wp2
         go_roundw
         case rel => exact ⟨i + 1, by go_num, by omega, (by first | rfl | trivial), hx⟩
         case measure => simp [RowKit.intOf]; omega
     · have hlt : ¬ (i : Int) < m := by omega
       have hx := hide (show ¬ ∃ i, i < m ∧ 20 < M i from fun ⟨j, h1, h2⟩ => by have := (unhide hM) j (by omega); omega)
       go_wp2
       go_ret
       exact ⟨0, rfl, by rw [unhide HC]; exact Or.inr ⟨rfl, fun h => by rcases h with h | h | h <;> first | exact HW0 (Or.inl h) | exact HW0 (Or.inr h) | exact (unhide hx) h⟩, F1⟩
end Zn
end Go.Proofs.YtfefehkapffljaaGreatDoor
namespace Go.Proofs.YtfefehkapffljaaGreatDoor
open Go.RowKit
namespace Zn
open Fr Bd
theorem lt_next {p : Nat → Prop} {i : Nat} (h : ∀ j, j < i → p j) (hi : p i) : ∀ j, j < i + 1 → p j := fun j hj => by
 rcases Nat.lt_or_ge j i with h' | h'
 · exact h j h'
 · obtain rfl : j = i := by omega
   exact hi
set_option maxRecDepth 100000 in
set_option maxHeartbeats 16000000 in
theorem cerr_ok (c : Cf) (p q : Option Addr) (pc qc : Nat) (w : World) (h : At w c p q) (hwd : ¬ c.wide) :
   Calls Tryz.prog 23 #[cfV c p pc q qc] w fun ev w' => ∃ e : Int, ev = .returned (.int .i64 e) ∧ c.is e ∧ Below w.heap.size w w' := by
 unfold cfV
 have BX := box_new w c p q pc qc 27
 have F1 := hide (ballo (Below.refl w.heap.size w) (.cells #[.slice p c.n pc, .slice q c.m qc, .int .i64 c.mn, .int .i64 c.lw, .int .i64 c.hi] 27))
 have A1 := h.b (unhide F1)
 have R2 : Hid (c.bad2 → c.is 2) := fun h => Or.inl ⟨rfl, h⟩
 have R3 : Hid (¬ c.bad2 → ¬ c.shp ∨ c.bad3 → c.is 3) := fun h h2 => Or.inr (Or.inl ⟨rfl, h, h2⟩)
 have R0 : Hid (¬ c.bad2 → c.shp → ¬ c.bad3 → c.is 0) := fun h h2 h3 => Or.inr (Or.inr ⟨rfl, h, h2, h3⟩)
 have H2 := hide (show c.bad2 ↔ (c.n < 1 ∨ 4 < c.n ∨ (∃ i, i < c.n ∧ (c.P i < 1 ∨ 256 < c.P i)) ∨ (∃ i, i < c.m ∧ ∃ k, k < c.M i ∧ (c.D i k < 0 ∨ 1000 < c.D i k)) ∨ c.mn < 0 ∨ c.lw < c.mn ∨ c.hi < c.lw) from Iff.rfl)
 have HS := hide (show c.shp ↔ (c.m = c.n ∧ ∀ i, i < c.m → c.M i = c.n) from Iff.rfl)
 have H3 := hide (show c.bad3 ↔ (∃ i, i < c.n ∧ ∃ k, k < c.n ∧ i ≠ k ∧ c.D i k ≤ c.D i i) from Iff.rfl)
 have hwn : c.n ≤ 20 := Nat.le_of_not_lt fun h => hwd (Or.inl h)
 have hwm : c.m ≤ 20 := Nat.le_of_not_lt fun h => hwd (Or.inr (Or.inl h))
 have hwM : Hid (∀ i, i < c.m → c.M i ≤ 20) := fun i hi => Nat.le_of_not_lt fun h => hwd (Or.inr (Or.inr ⟨i, hi, h⟩))
 clear h hwd
 generalize c.is = IS at *
 generalize c.bad2 = B2 at *
 generalize c.shp = SH at *
 generalize c.bad3 = B3 at *
 obtain ⟨n, P, m, M, D, mn, lw, hi⟩ := c
 simp only at *
 obtain ⟨A0, A1⟩ := A1
 simp only at A0 A1
 by_cases h1 : n < 1 ∨ 4 < n
 · have d1 : decide ((n : Int) < 1) = true ∨ (decide ((n : Int) < 1) = false ∧ decide ((4 : Int) < n) = true) := by simp; omega
   have hr := hide ((unhide R2) ((unhide H2).2 (by rcases h1 with h | h <;> simp [h])))
   clear A0 A1 R2 R3 R0 H2 HS H3 BX
   rcases d1 with d1 | ⟨d1, d2⟩
   all_goals
     go_enter Tryz.func23, Tryz.ntmps23
     go_wp2
     go_ret
     exact ⟨2, rfl, unhide hr, unhide F1⟩
 have d1 : decide ((n : Int) < 1) = false := by simp; omega
 have d2 : decide ((4 : Int) < n) = false := by simp; omega
 go_enter Tryz.func23, Tryz.ntmps23
 go_wp2_with fail
 generalize w.alloc (.cells #[.slice p n pc, .slice q m qc, .int .i64 mn, .int .i64 lw, .int .i64 hi] 27) = W at *
 have b0 := BX.c0
 have b1 := BX.c1
 have b2 := BX.c2
 have b3 := BX.c3
 have b4 := BX.c4
 have hbx0 := BX.lt
 simp only at b0 b1 b2 b3 b4
 clear BX d1 d2
 have A0 := hide A0
 have A1 := hide A1
 go_loopw [4] (fun a wr => ∃ i : Nat, a = .int .i64 i ∧ i ≤ n ∧ W = wr ∧ Hid (∀ j, j < i → 1 ≤ P j ∧ P j ≤ 256)) (fun a _ => n - (RowKit.intOf a).toNat)
 case atStart => exact ⟨0, rfl, Nat.zero_le _, rfl, fun j hj => by omega⟩
 case round =>
   obtain ⟨i, rfl, hi', rfl, hP⟩ := hrel
   have hge : (0 : Int) ≤ i := by omega
   by_cases hin : i < n
   · have hlt : (i : Int) < n := by omega
     obtain ⟨blk, off, rfl, hbl, hc⟩ := (unhide A0) i hin
     by_cases hx : P i < 1 ∨ 256 < P i
     · have d3 : decide (P i < 1) = true ∨ (decide (P i < 1) = false ∧ decide (256 < P i) = true) := by simp; omega
       have hr := hide ((unhide R2) ((unhide H2).2 (Or.inr (Or.inr (Or.inl ⟨i, hin, hx⟩)))))
       clear R2 R3 R0 H2 HS H3 A0 A1 hx hP
       generalize P i = x at *
       rcases d3 with d3 | ⟨d3, d4⟩
       all_goals
         go_wp2
         go_ret
         exact ⟨2, rfl, unhide hr, unhide F1⟩
     · have d3 : decide (P i < 1) = false := by simp; omega
       have d4 : decide (256 < P i) = false := by simp; omega
       have hN := hide (lt_next (p := fun j => 1 ≤ P j ∧ P j ≤ 256) (unhide hP) (by omega))
       clear R2 R3 R0 H2 HS H3 A0 A1 hx hP
       generalize P i = x at *
       go_wp2
       go_roundw
       case rel => exact ⟨i + 1, by go_num, by omega, (by first | rfl | trivial), hN⟩
       case measure => simp [RowKit.intOf]; omega
   · have hlt : ¬ (i : Int) < n := by omega
     obtain rfl : n = i := by omega
     clear hin hi'
     have hP2 := hide (show ¬ ∃ i, i < n ∧ (P i < 1 ∨ 256 < P i) from fun ⟨j, k1, k2⟩ => by have := (unhide hP) j k1; omega)
     clear hP A0
     go_wp2_with fail
     go_loopw [5, 6] (fun s a wr => ∃ (sh : Bool) (i : Nat), s = .bool sh ∧ a = .int .i64 i ∧ i ≤ m ∧ W = wr ∧ Hid (∀ j, j < i → ∀ k, k < M j → 0 ≤ D j k ∧ D j k ≤ 1000) ∧ Hid (sh = true ↔ m = n ∧ ∀ j, j < i → M j = n)) (fun _ a _ => m - (RowKit.intOf a).toNat)
     case atStart => exact ⟨_, 0, rfl, rfl, Nat.zero_le _, rfl, fun j hj => by omega, by simp [Hid]; omega⟩
     case round =>
       obtain ⟨sh, i, rfl, rfl, hi', rfl, hD, hS⟩ := hrel
       have hge : (0 : Int) ≤ i := by omega
       by_cases hin : i < m
       · have hlt : (i : Int) < m := by omega
         obtain ⟨blk, off, pr, cc, rfl, hbl, hc, hrow, _⟩ := (unhide A1) i hin
         have hrow := hide hrow
         have hMi := (unhide hwM) i hin
         go_wp2_with fail
         go_loopw [7] (fun a wr => ∃ k : Nat, a = .int .i64 k ∧ k ≤ M i ∧ W = wr ∧ Hid (∀ j, j < k → 0 ≤ D i j ∧ D i j ≤ 1000)) (fun a _ => M i - (RowKit.intOf a).toNat)
         case atStart => exact ⟨0, rfl, Nat.zero_le _, rfl, fun j hj => by omega⟩
         case round =>
           obtain ⟨k, rfl, hk', rfl, hK⟩ := hrel
           have hgek : (0 : Int) ≤ k := by omega
           by_cases hkn : k < M i
           · have hltk : (k : Int) < M i := by omega
             obtain ⟨blk2, off2, rfl, hbl2, hc2⟩ := (unhide hrow) k hkn
             by_cases hx : D i k < 0 ∨ 1000 < D i k
             · have d3 : decide (D i k < 0) = true ∨ (decide (D i k < 0) = false ∧ decide (1000 < D i k) = true) := by simp; omega
               have hr := hide ((unhide R2) ((unhide H2).2 (Or.inr (Or.inr (Or.inr (Or.inl ⟨i, hin, k, hkn, hx⟩))))))
               clear R2 R3 R0 H2 HS H3 A1 hx hD hS hK
               generalize D i k = x at *
               generalize M i = l at *
               rcases d3 with d3 | ⟨d3, d4⟩
               all_goals
                 go_wp2
                 go_ret
                 exact ⟨2, rfl, unhide hr, unhide F1⟩
             · have d3 : decide (D i k < 0) = false := by simp; omega
               have d4 : decide (1000 < D i k) = false := by simp; omega
               have hN := hide (lt_next (p := fun j => 0 ≤ D i j ∧ D i j ≤ 1000) (unhide hK) (by omega))
               clear R2 R3 R0 H2 HS H3 A1 hx hD hS hK
               generalize D i k = x at *
               generalize M i = l at *
               go_wp2
               go_roundw
               case rel => exact ⟨k + 1, by go_num, by omega, (by first | rfl | trivial), hN⟩
               case measure => simp [RowKit.intOf]; omega
           · have hltk : ¬ (k : Int) < M i := by omega
             have hD2 := hide (lt_next (p := fun j => ∀ k, k < M j → 0 ≤ D j k ∧ D j k ≤ 1000) (unhide hD) (fun j hj => (unhide hK) j (by omega)))
             clear hD hK hrow
             by_cases hM : M i = n
             · have hS2 : Hid (sh = true ↔ m = n ∧ ∀ j, j < i + 1 → M j = n) := (unhide hS).trans ⟨fun ⟨h1, h2⟩ => ⟨h1, lt_next h2 hM⟩, fun ⟨h1, h2⟩ => ⟨h1, fun j hj => h2 j (by omega)⟩⟩
               have e1 : ((M i : Int) != n) = false := by simp [hM]
               clear hS hM
               generalize M i = l at *
               go_wp2
               go_roundw
               case rel => exact ⟨sh, i + 1, rfl, by go_num, by omega, (by first | rfl | trivial), hD2, hS2⟩
               case measure => simp [RowKit.intOf]; omega
             · have hS2 : Hid ((false : Bool) = true ↔ m = n ∧ ∀ j, j < i + 1 → M j = n) := Iff.intro (fun h => by cases h) (fun h => absurd (h.2 i (by omega)) hM)
               have e1 : ((M i : Int) != n) = true := by simp; omega
               clear hS
               generalize M i = l at *
               go_wp2
               go_roundw
               case rel => exact ⟨false, i + 1, rfl, by go_num, by omega, (by first | rfl | trivial), hD2, hS2⟩
               case measure => simp [RowKit.intOf]; omega
       · have hlt : ¬ (i : Int) < m := by omega
         obtain rfl : m = i := by omega
         clear hin hi'
         have hD2 := hide (show ¬ ∃ i', i' < m ∧ ∃ k, k < M i' ∧ (D i' k < 0 ∨ 1000 < D i' k) from fun ⟨j, k1, k, k2, k3⟩ => by have := (unhide hD) j k1 k k2; omega)
         clear hD
         by_cases hx : mn < 0 ∨ lw < mn ∨ hi < lw
         · have hr := hide ((unhide R2) ((unhide H2).2 (Or.inr (Or.inr (Or.inr (Or.inr hx))))))
           have d : decide (mn < 0) = true ∨ (decide (mn < 0) = false ∧ decide (lw < mn) = true) ∨ (decide (mn < 0) = false ∧ decide (lw < mn) = false ∧ decide (hi < lw) = true) := by simp; omega
           clear R2 R3 R0 H2 HS H3 A1 hx hD2 hS hP2
           rcases d with d3 | ⟨d3, d4⟩ | ⟨d3, d4, d5⟩
           all_goals
             go_wp2
             go_ret
             exact ⟨2, rfl, unhide hr, unhide F1⟩
         · have d3 : decide (mn < 0) = false := by simp; omega
           have d4 : decide (lw < mn) = false := by simp; omega
           have d5 : decide (hi < lw) = false := by simp; omega
           have hB2 := hide (show ¬ B2 from fun h => by
             rcases (unhide H2).1 h with h | h | h | h | h
             · omega
             · omega
             · exact (unhide hP2) h
             · exact (unhide hD2) h
             · exact hx h)
           clear R2 H2 hx hD2 hP2
           by_cases hsh : SH
           · have hs2 := (unhide HS).1 hsh
             obtain rfl : sh = true := (unhide hS).2 hs2
             obtain ⟨rfl, hMn⟩ := hs2
             have hMn := hide hMn
             have R0 := hide ((unhide R0) (unhide hB2) hsh)
             have R3 := hide (fun h => (unhide R3) (unhide hB2) (Or.inr h))
             have hbx : w.heap.size < W.heap.size := hbx0
             have KB := hide (fun wr (hb : Below W.heap.size W wr) => ((hb.cell (p := ⟨w.heap.size, 1, none⟩) hbx).trans b1 : wr.cell? ⟨w.heap.size, 1, none⟩ = some (.slice q m qc)))
             have F0 := hide (Below.refl W.heap.size W)
             clear HS hS hsh hB2
             go_wp2_with fail
             clear b1 b2 b3 b4
             go_loopw [8] (fun a wr => ∃ i : Nat, a = .int .i64 i ∧ i ≤ m ∧ Hid (Below W.heap.size W wr) ∧ Hid (∀ j, j < i → ∀ k, k < m → j ≠ k → D j j < D j k)) (fun a _ => m - (RowKit.intOf a).toNat)
             case atStart => exact ⟨0, rfl, Nat.zero_le _, F0, fun j hj => by omega⟩
             case round =>
               obtain ⟨i, rfl, hi', hB, hI⟩ := hrel
               have b1 := (unhide KB) _ (unhide hB)
               have hge : (0 : Int) ≤ i := by omega
               by_cases hin : i < m
               · have hlt : (i : Int) < m := by omega
                 have hMi := (unhide hMn) i hin
                 have hMi2 : (M i : Int) = m := by omega
                 go_wp2_with fail
                 go_loopw [9] (fun a wr => ∃ k : Nat, a = .int .i64 k ∧ k ≤ m ∧ Hid (Below W.heap.size W wr) ∧ Hid (∀ j, j < k → i ≠ j → D i i < D i j)) (fun a _ => m - (RowKit.intOf a).toNat)
                 case atStart => exact ⟨0, rfl, Nat.zero_le _, hB, fun j hj => by omega⟩
                 case round =>
                   clear b1 hB
                   obtain ⟨k, rfl, hk', hB, hK⟩ := hrel
                   have b1 := (unhide KB) _ (unhide hB)
                   have hgek : (0 : Int) ≤ k := by omega
                   by_cases hkn : k < m
                   · have hltk : (k : Int) < m := by omega
                     obtain ⟨blk, off, pr, cc, rfl, hbl, hc, hrow, _⟩ := ((unhide A1).b (unhide hB)) i hin
                     obtain ⟨blk2, off2, rfl, hbl2, hcii⟩ := hrow i (by omega)
                     obtain ⟨blk3, off3, hp3, hbl3, hc3⟩ := hrow k (by omega)
                     simp only [Option.some.injEq, Addr.mk.injEq, and_true] at hp3
                     obtain ⟨rfl, rfl⟩ := hp3
                     have hiM : (i : Int) < M i := by omega
                     have hkM : (k : Int) < M i := by omega
                     by_cases hik : i = k
                     · have e1 : ((i : Int) != k) = false := by simp [hik]
                       have hN := hide (lt_next (p := fun j => i ≠ j → D i i < D i j) (unhide hK) (fun h => absurd hik h))
                       clear R3 R0 H3 hI hK hrow hMn hik
                       generalize D i k = x at *
                       generalize D i i = y at *
                       generalize M i = l at *
                       go_wp2_with fail
                       go_region
                       go_wp2
                       go_roundw
                       case rel => exact ⟨k + 1, by go_num, by omega, hide (btr (unhide hB) (drw _)), hN⟩
                       case measure => simp [RowKit.intOf]; omega
                     · have e1 : ((i : Int) != k) = true := by simp; omega
                       by_cases hx : D i k ≤ D i i
                       · have d6 : decide (D i k ≤ D i i) = true := by simpa using hx
                         have hr := hide ((unhide R3) ((unhide H3).2 ⟨i, hin, k, hkn, hik, hx⟩))
                         clear R3 R0 H3 hI hK hrow hMn hik hx
                         generalize D i k = x at *
                         generalize D i i = y at *
                         generalize M i = l at *
                         go_wp2_with fail
                         go_region
                         go_wp2
                         go_ret
                         exact ⟨3, rfl, unhide hr, btr (unhide F1) (btr (unhide hB) (drw _))⟩
                       · have d6 : decide (D i k ≤ D i i) = false := by simpa using hx
                         have hN := hide (lt_next (p := fun j => i ≠ j → D i i < D i j) (unhide hK) (fun _ => by omega))
                         clear R3 R0 H3 hI hK hrow hMn hik hx
                         generalize D i k = x at *
                         generalize D i i = y at *
                         generalize M i = l at *
                         go_wp2_with fail
                         go_region
                         go_wp2
                         go_roundw
                         case rel => exact ⟨k + 1, by go_num, by omega, hide (btr (unhide hB) (drw _)), hN⟩
                         case measure => simp [RowKit.intOf]; omega
                   · have hltk : ¬ (k : Int) < m := by omega
                     have hI2 := hide (lt_next (p := fun j => ∀ k, k < m → j ≠ k → D j j < D j k) (unhide hI) (fun j hj => (unhide hK) j (by omega)))
                     clear hI hK
                     go_wp2
                     go_roundw
                     case rel => exact ⟨i + 1, by go_num, by omega, hB, hI2⟩
                     case measure => simp [RowKit.intOf]; omega
               · have hlt : ¬ (i : Int) < m := by omega
                 have hr := hide ((unhide R0) (fun h => by
                   obtain ⟨j, k1, k, k2, k3, k4⟩ := (unhide H3).1 h
                   have := (unhide hI) j (by omega) k k2 k3
                   omega))
                 clear R3 R0 H3 hI
                 go_wp2
                 go_ret
                 exact ⟨0, rfl, unhide hr, btr (unhide F1) (unhide hB)⟩
           · obtain rfl : sh = false := by
               cases sh
               · rfl
               · exact absurd ((unhide HS).2 ((unhide hS).1 rfl)) hsh
             have hr := hide ((unhide R3) (unhide hB2) (Or.inl hsh))
             clear R3 R0 HS hS hsh hB2 H3 A1
             go_wp2
             go_ret
             exact ⟨3, rfl, unhide hr, unhide F1⟩
end Zn
end Go.Proofs.YtfefehkapffljaaGreatDoor
namespace Go.Proofs.YtfefehkapffljaaGreatDoor
open Go.RowKit
namespace Zn
open Fr Bd
theorem info3 : (Tryz.prog.info? 3).map (fun i => (i.zero, i.size, i.bytes)) = some (some (.int .i64 0), 1, 8) := by kernel_rfl
theorem own_less {w : World} {b b' e size : Nat} {v : Value} {n : Nat} {xs : List Value} (h : w.ownsRow b e size v n xs) (hb : b' ≤ b) : w.ownsRow b' e size v n xs := by
 refine ⟨h.1, ?_⟩
 rcases h.2 with h2 | ⟨g, cap, cur, h1, h2, h3⟩
 · exact Or.inl h2
 · exact Or.inr ⟨g, cap, cur, h1, by omega, h3⟩
def ivs (L : List Nat) : List Value := L.map fun (k : Nat) => .int .i64 (k : Int)
def nfr (r : Nat → Int) (n : Nat) : Nat → List Nat
 | 0 => []
 | f + 1 => nfr r n f ++ (List.range n).filter (fun k => decide (r k = (f : Int)))
theorem nfr_len (r : Nat → Int) (n : Nat) : ∀ f, (nfr r n f).length ≤ n * f
 | 0 => by simp [nfr]
 | f + 1 => by
   have h1 := nfr_len r n f
   have h2 := List.length_filter_le (fun k => decide (r k = (f : Int))) (List.range n)
   simp only [List.length_range] at h2
   simp only [nfr, List.length_append]
   rw [Nat.mul_succ]; omega
theorem ran_yes {r : Nat → Int} {f : Int} {i : Nat} (h : r i = f) : (List.range (i + 1)).filter (fun k => decide (r k = f)) = (List.range i).filter (fun k => decide (r k = f)) ++ [i] := by
 rw [List.range_succ, List.filter_append]; simp [h]
theorem ran_no {r : Nat → Int} {f : Int} {i : Nat} (h : r i ≠ f) : (List.range (i + 1)).filter (fun k => decide (r k = f)) = (List.range i).filter (fun k => decide (r k = f)) := by
 rw [List.range_succ, List.filter_append]; simp [h]
set_option maxRecDepth 100000 in
set_option maxHeartbeats 8000000 in
theorem from_ok (c : Cf) (p q : Option Addr) (pc qc : Nat) (x : Nat) (w : World) (h : At w c p q) (hx : x < c.m) (hn : c.n ≤ 20) (hM : c.n ≤ c.M x) :
   Calls Tryz.prog 67 #[cfV c p pc q qc, .int .i64 x] w fun ev w' => ∃ v, ev = .returned v ∧ w'.ownsRow w.heap.size 3 1 v (nfr (c.D x) c.n 1001).length (ivs (nfr (c.D x) c.n 1001)) ∧ (nfr (c.D x) c.n 1001 = [] → v = .slice none 0 0) ∧ Below w.heap.size w w' := by
 unfold cfV
 have BX := box_new w c p q pc qc 27
 have F1 := ballo (Below.refl w.heap.size w) (.cells #[.slice p c.n pc, .slice q c.m qc, .int .i64 c.mn, .int .i64 c.lw, .int .i64 c.hi] 27)
 have A1 := h.rs.b F1
 clear h
 obtain ⟨n, P, m, M, D, mn, lw, hi⟩ := c
 simp only at *
 obtain ⟨blk, off, pr, cc, rfl, hbl, hc, hrow, _⟩ := A1 x hx
 generalize D x = r at *
 generalize M x = l at *
 obtain ⟨i0, hi0, hz0, hz1, hz2⟩ := info_parts info3
 have HI := hide hi0
 have HZ := hide hz0
 have HZ1 := hide hz1
 have HZ2 := hide hz2
 clear hi0 hz0 hz1 hz2 A1
 have hge : (0 : Int) ≤ x := by omega
 have hlt : (x : Int) < m := by omega
 obtain ⟨L, hL⟩ : ∃ L, L = nfr r n 1001 := ⟨_, rfl⟩
 rw [← hL]
 have HL := hide hL
 clear hL
 go_enter Tryz.func67, Tryz.ntmps67
 go_wp2_with fail
 generalize w.alloc (.cells #[.slice p n pc, .slice (some ⟨blk, off, none⟩) m qc, .int .i64 mn, .int .i64 lw, .int .i64 hi] 27) = W at *
 have b0 := BX.c0
 have b1 := BX.c1
 have bl := BX.lt
 simp only at b0 b1
 have hws := F1.size
 have KB := hide (fun wr (hb : Below W.heap.size W wr) => (⟨(hb.cell (p := ⟨w.heap.size, 0, none⟩) bl).trans b0, (hb.cell (p := ⟨w.heap.size, 1, none⟩) bl).trans b1, (hb.cell (p := ⟨blk, off + x, none⟩) hbl).trans hc⟩ : wr.cell? ⟨w.heap.size, 0, none⟩ = some (.slice p n pc) ∧ wr.cell? ⟨w.heap.size, 1, none⟩ = some (.slice (some ⟨blk, off, none⟩) m qc) ∧ wr.cell? ⟨blk, off + x, none⟩ = some (.slice pr l cc)))
 have hrow := hide hrow
 have F1 := hide F1
 clear BX b0 b1 hc
 go_loopw [5, 6] (fun u a wr => ∃ (f : Nat), a = .int .i64 f ∧ f ≤ 1001 ∧ wr.ownsRow W.heap.size 3 1 u (nfr r n f).length (ivs (nfr r n f)) ∧ Hid (nfr r n f = [] → u = .slice none 0 0) ∧ Below W.heap.size W wr) (fun _ a _ => 1001 - (RowKit.intOf a).toNat)
 case atStart => exact ⟨0, rfl, by omega, World.ownsRow_nil _ _ _ _, fun _ => rfl, Below.refl _ _⟩
 case round =>
   obtain ⟨f, rfl, hf', hown, hnil, hb⟩ := hrel
   have hgef : (0 : Int) ≤ f := by omega
   by_cases hin : f < 1001
   · have hle : (f : Int) ≤ 1000 := by omega
     have hlen := nfr_len r n f
     go_wp2_with fail
     go_loopw [5, 7] (fun u a wr => ∃ (i : Nat) (L1 : List Nat), a = .int .i64 i ∧ i ≤ n ∧ Hid (L1 = nfr r n f ++ (List.range i).filter (fun k => decide (r k = (f : Int)))) ∧ wr.ownsRow W.heap.size 3 1 u L1.length (ivs L1) ∧ Hid (L1 = [] → u = .slice none 0 0) ∧ Below W.heap.size W wr) (fun _ a _ => n - (RowKit.intOf a).toNat)
     case atStart => exact ⟨0, _, rfl, by omega, (by simp [Hid]), hown, hnil, hb⟩
     case round =>
       clear hown hnil hb
       obtain ⟨i, L1, rfl, hi', hL1, hown, hnil, hb⟩ := hrel
       have hgei : (0 : Int) ≤ i := by omega
       obtain ⟨k0, k1, kc⟩ := (unhide KB) _ hb
       by_cases hin2 : i < n
       · have hlti : (i : Int) < n := by omega
         have hltl : (i : Int) < l := by omega
         obtain ⟨blk2, off2, rfl, hbl2, hci⟩ := ((unhide hrow).b hb) i (by omega)
         have hl1 : L1.length ≤ 20 * 1001 + 20 := by
           rw [unhide hL1, List.length_append]
           have h2 := List.length_filter_le (fun k => decide (r k = (f : Int))) (List.range i)
           simp only [List.length_range] at h2
           have : n * f ≤ 20 * 1001 := Nat.mul_le_mul hn (by omega)
           omega
         by_cases he : r i = f
         · have e1 : (r i == (f : Int)) = true := by simp [he]
           have hL2 := hide (show L1 ++ [i] = nfr r n f ++ (List.range (i + 1)).filter (fun k => decide (r k = (f : Int))) by rw [ran_yes he, unhide hL1]; simp)
           clear hL1 he
           generalize r i = y at *
           have hsz := hb.size
           go_wp2_with (at_builtin; refine wpList_append_own _ rfl _ _ 22 rfl W.heap.size 3 i0 (.int .i64 0) 1 8 Tryz.underlying22 (unhide HI) (unhide HZ) (unhide HZ1) (unhide HZ2) rfl (by decide) _ _ _ rfl (hown.alloc _) ⟨wr.heap.size, 0, none⟩ 1 1 [.int .i64 i] rfl rfl (by intro j u hj; match j, hj with | 0, hj => simp at hj; subst hj; simp [Addr.add]) (by intro u hu; simp at hu; subst hu; rfl) (by unfold maxLen; omega) (by omega) (by simp; omega) ?_; intro v' w3 hown' hgrow3 hnil3)
           have b3 : Below W.heap.size W w3 := (ballo hb _).grown hgrow3 (by simp; omega) (own_row hown)
           have hown3 : w3.ownsRow W.heap.size 3 1 v' (L1 ++ [i]).length (ivs (L1 ++ [i])) := by simpa [ivs] using hown'
           clear hown' hgrow3 hnil3 hown hnil
           go_wp2
           go_roundw
           case rel => exact ⟨i + 1, L1 ++ [i], by go_num, by omega, hL2, hown3, (fun h => by simp at h), b3⟩
           case measure => simp [RowKit.intOf]; omega
         · have e1 : (r i == (f : Int)) = false := by simp [he]
           have hL2 := hide (show L1 = nfr r n f ++ (List.range (i + 1)).filter (fun k => decide (r k = (f : Int))) by rw [ran_no he, unhide hL1])
           clear hL1 he
           generalize r i = y at *
           go_wp2
           go_roundw
           case rel => exact ⟨i + 1, L1, by go_num, by omega, hL2, hown, hnil, hb⟩
           case measure => simp [RowKit.intOf]; omega
       · have hlti : ¬ (i : Int) < n := by omega
         obtain rfl : i = n := by omega
         have hL2 : L1 = nfr r i (f + 1) := unhide hL1
         subst hL2
         clear hL1
         have hown := hide hown
         have hnil := hide (unhide hnil)
         go_wp2
         go_roundw
         case rel => exact ⟨f + 1, by go_num, by omega, unhide hown, hnil, hb⟩
         case measure => simp [RowKit.intOf]; omega
   · obtain rfl : f = 1001 := by omega
     have hle : ¬ ((1001 : Nat) : Int) ≤ 1000 := by omega
     have F2 := btr (unhide F1) hb
     rw [← unhide HL] at hown hnil
     go_wp2
     go_ret
     exact ⟨_, rfl, own_less hown hws, unhide hnil, F2⟩
end Zn
end Go.Proofs.YtfefehkapffljaaGreatDoor
