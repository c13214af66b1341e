/- Package slab's New, each, Count, Size · Package slab's Count. -/
import Derived.Test.YtfefehkapffljaaGreatDoorKG
import Derived.Test.YtfefehkapffljaaGreatDoorKZ
namespace Go.Proofs.YtfefehkapffljaaGreatDoor
open Go.RowKit Go.Maps
namespace Sb
open Fr Bd Zn Dz
theorem snew_nil (sz : Int) (w : World) (e : Nat → Addr) (he : Errs w e) :
    Calls Tryz.prog 13 #[.pointer none, .int .i64 sz] w fun ev w' => ev = .returned (.tuple #[.pointer none, errV (e 2)]) ∧ Below w.heap.size w w' := by
  have h2 := he.v2
  clear he
  unfold errV
  go_enter Tryz.func13, Tryz.ntmps13
  go_wp2_with fail
  go_quiet (fail)
  go_wp2
  go_ret2
  exact ⟨rfl, bdN (Below.refl _ _) _⟩
theorem snew_bad (z : Nat) (sz : Int) (w : World) (e : Nat → Addr) (he : Errs w e) (h : sz < 1 ∨ 64 < sz) :
    Calls Tryz.prog 13 #[ptr z, .int .i64 sz] w fun ev w' => ev = .returned (.tuple #[.pointer none, errV (e 1)]) ∧ Below w.heap.size w w' := by
  have h1 := he.v1
  clear he
  unfold errV ptr
  by_cases c1 : sz < 1
  · have d1 : decide (sz < 1) = true := by simpa using c1
    clear h
    go_enter Tryz.func13, Tryz.ntmps13
    go_wp2_with fail
    go_quiet (fail)
    go_wp2
    go_ret2
    exact ⟨rfl, bdN (Below.refl _ _) _⟩
  · have d1 : decide (sz < 1) = false := by simpa using c1
    have d2 : decide (sz > 64) = true := by simp; omega
    clear h c1
    go_enter Tryz.func13, Tryz.ntmps13
    go_wp2_with fail
    go_quiet (fail)
    go_wp2
    go_ret2
    exact ⟨rfl, bdN (Below.refl _ _) _⟩
theorem snew_ok (N0 z : Nat) (sz : Int) (w : World) (h1 : 1 ≤ sz) (h2 : sz ≤ 64) (hN : N0 ≤ w.heap.size) :
    Calls Tryz.prog 13 #[ptr z, .int .i64 sz] w fun ev w' => ∃ c m ly, ev = .returned (.tuple #[ptr c, .nilIface]) ∧ DC N0 w' c z ly sz m [] [] ∧ w.heap.size ≤ ly.1 ∧ ly.2 = .map #[] 0 ∧ Below w.heap.size w w' := by
  have d1 : decide (sz < 1) = false := by simp; omega
  have d2 : decide (sz > 64) = false := by simp; omega
  have hmm := @run_makeMap Tryz.prog
  unfold ptr at *
  go_enter Tryz.func13, Tryz.ntmps13
  go_wp2
  go_ret2
  have e1 : (w.alloc (.map #[] 0)).heap.size = w.heap.size + 1 := by simp
  have hq := World.cell?_alloc_new (w.alloc (.map #[] 0)) #[.pointer (some ⟨z, 0, none⟩), .int .i64 sz, .slice none 0 0, .map (some w.heap.size)] 114
  have ht := tag_new (w.alloc (.map #[] 0)) #[.pointer (some ⟨z, 0, none⟩), .int .i64 sz, .slice none 0 0, .map (some w.heap.size)] 114
  have hf := fun o => World.frozen?_alloc_at (w := w.alloc (.map #[] 0)) #[.pointer (some ⟨z, 0, none⟩), .int .i64 sz, .slice none 0 0, .map (some w.heap.size)] 114 (w.heap.size + 1) o e1.symm
  rw [e1] at hq ht
  have h5 : (0 : Int) ≤ 64 / sz := Int.ediv_nonneg (by omega) (by omega)
  refine ⟨w.heap.size + 1, (64 / sz).toNat, (w.heap.size, .map #[] 0), rfl, ⟨hq 0, hq 1, ⟨none, 0, hq 2, World.ownsRow_nil _ _ _ _⟩, ht, by omega, by simp, rfl, List.nodup_nil, fun i b s h => by simp at h, by simp, List.Pairwise.nil, hf, ⟨h1, h2, by omega⟩, ⟨hq 3, alloc_at (MapKept.heap_alloc w _).1, rfl, hN⟩⟩, Nat.le_refl _, rfl, ballo (ballo (Below.refl _ _) _) _⟩
theorem ssize_ok (c : Nat) (sz : Int) (w : World) (h1 : w.cell? ⟨c, 1, none⟩ = some (.int .i64 sz)) :
    Calls Tryz.prog 89 #[ptr c] w fun ev w' => ev = .returned (.int .i64 sz) ∧ w' = w := by
  unfold ptr
  go_enter Tryz.func89, Tryz.ntmps89
  go_wp2
  go_ret
  exact ⟨rfl, rfl⟩
set_option maxRecDepth 100000 in
set_option maxHeartbeats 8000000 in
theorem each_ok (c : Nat) (sz : Int) (m n d : Nat) (p : Option Addr) (B : Nat → Nat) (f : Nat) (lb : Array Value) (ef : ∀ args w, (callFunc f args).run Tryz.prog w = .ok (.enter f args) w) (R : Nat → Nat → World → Prop) (w : World)
    (h2 : w.cell? ⟨c, 2, none⟩ = some (.slice p n d)) (hm : 1 ≤ sz ∧ sz ≤ 64 ∧ (m : Int) = 64 / sz) (h0 : R 0 0 w)
    (hk : ∀ i j W, R i j W → W.cell? ⟨c, 1, none⟩ = some (.int .i64 sz) ∧ ∀ t, t < n → ∃ g, p = some ⟨g, 0, none⟩ ∧ W.cell? ⟨g, t, none⟩ = some (ptr (B t)))
    (hc : ∀ i j W, i < n → j < m → R i j W → Calls Tryz.prog f (#[ptr (B i), .int .i64 (j : Int)] ++ lb) W fun ev W' => ev = .returned (.tuple #[]) ∧ R i (j + 1) W')
    (hx : ∀ i W, i < n → R i m W → R (i + 1) 0 W) (hn : n ≤ 100000) (hm64 : m ≤ 64) :
    Calls Tryz.prog 49 #[ptr c, .func (.func f) #[] lb] w fun ev w' => ev = .returned (.tuple #[]) ∧ R n 0 w' := by
  have H0 := hide h0
  have HK := hide hk
  have HC := hide hc
  have HX := hide hx
  have HRM := hide (fun W (h : W.cell? ⟨c, 1, none⟩ = some (.int .i64 sz)) => room_ok c sz W h hm.1 hm.2.1)
  rw [← hm.2.2] at HRM
  clear h0 hk hc hx hm
  unfold ptr at *
  go_enter Tryz.func49, Tryz.ntmps49
  go_wp2_with fail
  go_loopw [12] (fun s wr => ∃ i : Nat, s = .int .i64 i ∧ i ≤ n ∧ Hid (R i 0 wr)) (fun s _ => n - (RowKit.intOf s).toNat)
  case atStart => exact ⟨0, rfl, Nat.zero_le _, H0⟩
  case round =>
    obtain ⟨i, rfl, hi, hR⟩ := hrel
    clear h2 H0
    by_cases hin : i < n
    · obtain ⟨c1, hrow⟩ := (unhide HK) i 0 wr (unhide hR)
      obtain ⟨g, rfl, cg⟩ := hrow i hin
      have hi0 : (0 : Int) ≤ i := by omega
      have hi1 : (i : Int) < n := by omega
      have HRW := hide ((unhide HRM) wr c1)
      clear hrow
      go_wp2_with (go_at_call 114; refine (unhide HRW).mono ?_; rintro ev w3 ⟨rfl, rfl⟩)
      clear c1 cg
      go_loopw [18] (fun s wr => ∃ j : Nat, s = .int .i64 j ∧ j ≤ m ∧ Hid (R i j wr)) (fun s _ => m - (RowKit.intOf s).toNat)
      case atStart => exact ⟨0, rfl, Nat.zero_le _, hR⟩
      case round =>
        clear HRW hR
        obtain ⟨j, rfl, hj, hR⟩ := hrel
        by_cases hjm : j < m
        · have hj1 : (j : Int) < m := by omega
          have HCALL := hide ((unhide HC) i j _ hin hjm (unhide hR))
          clear hR
          go_wp2_with (go_at_fn f; refine (unhide HCALL).mono ?_; rintro ev w5 ⟨rfl, hR5⟩)
          have hR5 := hide hR5
          clear HCALL
          go_roundw
          case rel => exact ⟨j + 1, by go_num, by omega, hR5⟩
          case measure => simp [RowKit.intOf]; omega
        · obtain rfl : j = m := by omega
          have hR6 := hide ((unhide HX) i _ hin (unhide hR))
          clear hR
          go_wp2
          go_roundw
          case rel => exact ⟨i + 1, by go_num, by omega, hR6⟩
          case measure => simp [RowKit.intOf]; omega
    · obtain rfl : i = n := by omega
      go_wp2
      go_end0
      exact ⟨rfl, unhide hR⟩
end Sb
end Go.Proofs.YtfefehkapffljaaGreatDoor
namespace Go.Proofs.YtfefehkapffljaaGreatDoor
open Go.RowKit Go.Maps
namespace Sb
open Fr Bd Zn Dz
/-- Objects that are taken, of the first i slabs. -/
def tot (m : Nat) (ss : List Sl) : Nat → Nat
  | 0 => 0
  | i + 1 => tot m ss i + pop (ss.getD i default).bm m
theorem tot_le (m : Nat) (ss : List Sl) : ∀ i, tot m ss i ≤ i * m
  | 0 => by simp [tot]
  | i + 1 => by
    have h1 := tot_le m ss i
    have h2 := pop_le (ss.getD i default).bm m
    rw [tot, Nat.add_mul, Nat.one_mul]; omega
theorem eg48 : ∀ args w, (callFunc 64 args).run Tryz.prog w = .ok (.enter 64 args) w := enters_of Tryz.func64 (by kernel_rfl) rfl
/-- A box of a number. -/
structure Nb (w : World) (r : Nat) (v : Int) : Prop where
  c : w.cell? ⟨r, 0, none⟩ = some (.int .i64 v)
  f : w.frozen? ⟨r, 0, none⟩ = false
theorem Nb.set {w : World} {r : Nat} {v : Int} (h : Nb w r v) (u : Int) : Nb (w.setCell ⟨r, 0, none⟩ (.int .i64 u)) r u := ⟨css h.c, by rw [World.frozen?_setCell]; exact h.f⟩
theorem Nb.off {w : World} {r q : Nat} {v : Int} (h : Nb w r v) (hne : q ≠ r) (u : Value) : Nb (w.setCell ⟨q, 0, none⟩ u) r v := ⟨(cso (by simp <;> exact hne)).trans h.c, by rw [World.frozen?_setCell]; exact h.f⟩
def CntR (bm j rb tb : Nat) (r t : Int) (w : World) (ev : Ending) (w' : World) : Prop := ev = .returned (.tuple #[]) ∧ w' = if bm.testBit j = true then (w.setCell ⟨rb, 0, none⟩ (.int .i64 (r + 1))).setCell ⟨tb, 0, none⟩ (.int .i64 (t + 1)) else w.setCell ⟨rb, 0, none⟩ (.int .i64 (r + 1))
set_option maxHeartbeats 4000000 in
theorem cnt1_ok (rb tb b j bm : Nat) (r t : Int) (w : World) (hr : Nb w rb r) (ht : Nb w tb t) (h3 : w.cell? ⟨b, 3, none⟩ = some (.int .u64 bm)) (n1 : rb ≠ tb) (hj : j < 64) (hb : bm < 18446744073709551616) (br : 0 ≤ r ∧ r ≤ 1000000) (bt : 0 ≤ t ∧ t ≤ 1000000) :
    Calls Tryz.prog 64 (#[ptr b, .int .i64 (j : Int)] ++ #[ptr rb, ptr tb]) w fun ev w' => CntR bm j rb tb r t w ev w' := by
  have c0 := hr.c
  have f0 := hr.f
  have c1 := ht.c
  have f1 := ht.f
  have k3 : (w.setCell ⟨rb, 0, none⟩ (.int .i64 (r + 1))).cell? ⟨b, 3, none⟩ = some (.int .u64 bm) := (cso (by simp)).trans h3
  have k1 : (w.setCell ⟨rb, 0, none⟩ (.int .i64 (r + 1))).cell? ⟨tb, 0, none⟩ = some (.int .i64 t) := (cso (by simp <;> exact n1)).trans c1
  have HS := hide (shas_ok b j bm _ k3 hj hb)
  rw [show (#[ptr b, Value.int .i64 (j : Int)] ++ #[ptr rb, ptr tb] : Array Value) = #[ptr b, .int .i64 (j : Int), ptr rb, ptr tb] from rfl]
  clear hr ht
  unfold ptr at *
  cases hbit : bm.testBit j with
  | true =>
    rw [hbit] at HS
    have HB := hide hbit
    clear hbit
    go_enter Tryz.func64, Tryz.ntmps64
    go_wp2_with (go_at_call 51; refine (unhide HS).mono ?_; rintro ev w3 ⟨rfl, rfl⟩)
    go_end0
    exact ⟨rfl, by rw [if_pos (unhide HB)]⟩
  | false =>
    rw [hbit] at HS
    have HB := hide hbit
    clear hbit
    go_enter Tryz.func64, Tryz.ntmps64
    go_wp2_with (go_at_call 51; refine (unhide HS).mono ?_; rintro ev w3 ⟨rfl, rfl⟩)
    go_end0
    exact ⟨rfl, by rw [if_neg (by rw [unhide HB]; simp)]⟩
/-- What each round of Count keeps. -/
structure CnI (w : World) (m : Nat) (ss : List Sl) (tb rb : Nat) (i j : Nat) (W : World) : Prop where
  b : Below w.heap.size w W
  r : Nb W rb ((i * m + j : Nat) : Int)
  t : Nb W tb ((tot m ss i + pop (ss.getD i default).bm j : Nat) : Int)
set_option maxRecDepth 100000 in
set_option maxHeartbeats 4000000 in
theorem count_ok (N0 : Nat) (c z : Nat) (ly : Ly) (sz : Int) (m : Nat) (bs : List Nat) (ss : List Sl) (w : World) (h : DC N0 w c z ly sz m bs ss) (hn : ss.length ≤ 10000) :
    Calls Tryz.prog 21 #[ptr c] w fun ev w' => ev = .returned (.tuple #[.int .i64 (tot m ss ss.length), .int .i64 ((ss.length * m : Nat) : Int)]) ∧ Below w.heap.size w w' := by
  have F2 := ballo (ballo (Below.refl w.heap.size w) (.cells #[.int .i64 0] 3)) (.cells #[.int .i64 0] 3)
  have hs1 : (w.alloc (.cells #[.int .i64 0] 3)).heap.size = w.heap.size + 1 := by simp
  have n1 : Nb ((w.alloc (.cells #[.int .i64 0] 3)).alloc (.cells #[.int .i64 0] 3)) w.heap.size 0 :=
    ⟨((ballo (Below.refl _ _) _).cell (p := ⟨w.heap.size, 0, none⟩) (by simp)).trans (World.cell?_alloc_new w #[.int .i64 0] 3 0), ((ballo (Below.refl _ _) _).frozen (p := ⟨w.heap.size, 0, none⟩) (by simp)).trans (World.frozen?_alloc_at _ _ w.heap.size 0 rfl)⟩
  have n2 : Nb ((w.alloc (.cells #[.int .i64 0] 3)).alloc (.cells #[.int .i64 0] 3)) (w.heap.size + 1) 0 := by
    have q := World.cell?_alloc_new (w.alloc (.cells #[.int .i64 0] 3)) #[.int .i64 0] 3 0
    have q2 := World.frozen?_alloc_at (w := w.alloc (.cells #[.int .i64 0] 3)) #[.int .i64 0] 3 (w.heap.size + 1) 0 hs1.symm
    rw [hs1] at q
    exact ⟨q, q2⟩
  have hml := h.mle
  obtain ⟨p, d, e2, o2⟩ := h.c2
  have hrow := h.slabs o2
  have hR0 : CnI w m ss w.heap.size (w.heap.size + 1) 0 0 ((w.alloc (.cells #[.int .i64 0] 3)).alloc (.cells #[.int .i64 0] 3)) := ⟨F2, by simpa using n2, by simpa [tot, pop] using n1⟩
  have hcl := h.tg.lt
  rw [h.len] at e2
  have HEA := hide (each_ok c sz m ss.length d p (fun i => bs.getD i 0) 64 #[ptr (w.heap.size + 1), ptr w.heap.size] eg48 (CnI w m ss w.heap.size (w.heap.size + 1)) _ ((F2.cell (p := ⟨c, 2, none⟩) hcl).trans e2) h.mm hR0
    (fun i j W hW => ⟨(hW.b.cell (p := ⟨c, 1, none⟩) hcl).trans h.c1, fun t ht => by
      obtain ⟨g, rfl, hg, cg, _⟩ := hrow t ht
      exact ⟨g, rfl, (hW.b.cell (p := ⟨g, t, none⟩) hg).trans cg⟩⟩)
    (fun i j W hi hj hW => by
      obtain ⟨b, s, eb, es, hS, hok⟩ := h.slab hi
      have hbl := hS.tg.lt
      have ht1 := tot_le m ss i
      have ht2 := pop_le s.bm j
      have hmi : i * m ≤ 10000 * 64 := Nat.mul_le_mul (by omega) hml.2
      have hgs : ss.getD i default = s := getD_at es
      have hgb : bs.getD i 0 = b := getD_at eb
      have hWt := hW.t
      simp only [hgs, hgb] at hWt ⊢
      refine (cnt1_ok (w.heap.size + 1) w.heap.size b j s.bm _ _ W hW.r hWt ((hW.b.cell (p := ⟨b, 3, none⟩) hbl).trans hS.c3) (by omega) (by omega) (pow_le64 hok.2.2.1 hml.2) (by omega) (by omega)).mono ?_
      rintro ev W' ⟨rfl, hw⟩
      refine ⟨rfl, ?_⟩
      by_cases hbit : s.bm.testBit j = true
      · rw [if_pos hbit] at hw
        subst hw
        refine ⟨(hW.b.setCell (by simp only; omega) _).setCell (by simp only; omega) _, ?_, ?_⟩
        · have := (hW.r.set (((i * m + j : Nat) : Int) + 1)).off (q := w.heap.size) (by omega) (.int .i64 (((tot m ss i + pop s.bm j : Nat) : Int) + 1))
          rw [show ((i * m + (j + 1) : Nat) : Int) = ((i * m + j : Nat) : Int) + 1 by omega]; exact this
        · have := (hWt.off (q := w.heap.size + 1) (by omega) (.int .i64 (((i * m + j : Nat) : Int) + 1))).set (((tot m ss i + pop s.bm j : Nat) : Int) + 1)
          rw [hgs, pop, if_pos hbit]
          rw [show ((tot m ss i + (pop s.bm j + 1) : Nat) : Int) = ((tot m ss i + pop s.bm j : Nat) : Int) + 1 by omega]; exact this
      · rw [if_neg hbit] at hw
        subst hw
        refine ⟨hW.b.setCell (by simp only; omega) _, ?_, ?_⟩
        · have := hW.r.set (((i * m + j : Nat) : Int) + 1)
          rw [show ((i * m + (j + 1) : Nat) : Int) = ((i * m + j : Nat) : Int) + 1 by omega]; exact this
        · have := hWt.off (q := w.heap.size + 1) (by omega) (.int .i64 (((i * m + j : Nat) : Int) + 1))
          rw [hgs, pop, if_neg hbit]
          simpa using this)
    (fun i W hi hW => ⟨hW.b, by have := hW.r; rw [Nat.add_mul, Nat.one_mul]; exact this, by have := hW.t; rw [tot]; simpa [pop] using this⟩) (by omega) hml.2)
  clear h e2 hrow hR0 n1 n2 F2
  unfold ptr at *
  go_enter Tryz.func21, Tryz.ntmps21
  go_wp2_with fail
  refine (unhide HEA).mono ?_
  rintro ev w5 ⟨rfl, hR⟩
  have c0 := hR.t.c
  have c1 := hR.r.c
  have f0 := hR.t.f
  have f1 := hR.r.f
  have hb := hR.b
  simp only [Nat.add_zero, pop] at c0 c1
  clear hR HEA
  go_wp2_with fail
  have n01 : w.heap.size ≠ w.heap.size + 1 := by omega
  have k0 : ∀ u v, ((w5.setCell ⟨w.heap.size, 0, none⟩ u).setCell ⟨w.heap.size + 1, 0, none⟩ v).cell? ⟨w.heap.size, 0, none⟩ = some u := fun u v => (cso (by simp)).trans (css c0)
  have k1 : ∀ u v, ((w5.setCell ⟨w.heap.size, 0, none⟩ u).setCell ⟨w.heap.size + 1, 0, none⟩ v).cell? ⟨w.heap.size + 1, 0, none⟩ = some v := fun u v => css ((cso (by simp)).trans c1)
  have HB : Hid (∀ u v, Below w.heap.size w ((w5.setCell ⟨w.heap.size, 0, none⟩ u).setCell ⟨w.heap.size + 1, 0, none⟩ v)) := fun u v => (hb.setCell (Nat.le_refl _) _).setCell (Nat.le_succ _) _
  clear hb
  go_region
  all_goals
    go_wp2
    refine bodyPost_ret (v := .tuple #[.int .i64 (tot m ss ss.length), .int .i64 ((ss.length * m : Nat) : Int)]) (by simp [results, Tryz.results21, go_sem, k0, k1]; try rfl) rfl ?_
    exact ⟨rfl, ((unhide HB) _ _).drew⟩
end Sb
end Go.Proofs.YtfefehkapffljaaGreatDoor
