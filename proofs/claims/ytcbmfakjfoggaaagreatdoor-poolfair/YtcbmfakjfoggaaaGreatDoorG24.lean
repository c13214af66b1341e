/- A tray's Count; a new tray; a depot's worker; a pair's swap · The library's slices.DeleteFunc at objects, with the function that a cache's clear hands to it · Package slab's clear, with trays; a tray's Lift. -/
import Derived.Test.YtcbmfakjfoggaaaGreatDoorG18
import Derived.Test.YtcbmfakjfoggaaaGreatDoorG23
import Derived.Laws.OwnMore
import Derived.BigRegion
import Derived.BigQuiet
import Derived.Test.YtcbmfakjfoggaaaGreatDoorG05
import Derived.Test.YtcbmfakjfoggaaaGreatDoorG10
import Derived.Deep.RegionHeld3
namespace Go.Proofs.YtcbmfakjfoggaaaGreatDoor
open Go.RowKit Go.Maps
namespace Mg
open Fr Bd Zn Dz Sb
theorem tcount_ok {N0 : Nat} {w : World} {c t r : Nat} {xs : List Bl} (h : TRy N0 w c t r xs) : Calls Tryz.prog 166 #[.pointer (some ⟨t, 0, none⟩)] w fun ev w' => ev = .returned (.int .i64 xs.length) ∧ w' = w := by
  obtain ⟨v, e, o, _⟩ := h.c1
  obtain ⟨p, d, rfl⟩ := own_sl o
  clear h o
  go_enter Tryz.func166, Tryz.ntmps166
  go_wp2
  go_ret
  exact ⟨rfl, rfl⟩
/-- A new tray. -/
theorem tray_ok (N0 c : Nat) (w : World) (_hN : N0 ≤ w.heap.size) : Calls Tryz.prog 145 #[.pointer (some ⟨c, 0, none⟩)] w fun ev w' => ev = .returned (.pointer (some ⟨w.heap.size, 0, none⟩)) ∧ w' = w.alloc (.cells #[.pointer (some ⟨c, 0, none⟩), .slice none 0 0] 286) := by
  go_enter Tryz.func145, Tryz.ntmps145
  go_wp2
  go_ret
  exact ⟨rfl, rfl⟩
theorem tray_new (N0 c : Nat) (w : World) (hN : N0 ≤ w.heap.size) : TRy N0 (w.alloc (.cells #[.pointer (some ⟨c, 0, none⟩), .slice none 0 0] 286)) c w.heap.size w.heap.size [] :=
  ⟨World.cell?_alloc_new w _ 286 0, ⟨_, World.cell?_alloc_new w _ 286 1, World.ownsRow_nil _ _ _ _, Or.inl ⟨rfl, rfl⟩⟩, tag_new _ _ _, hN, fun o => World.frozen?_alloc_at _ _ w.heap.size o rfl⟩
theorem worker_yes {w : World} {d g n cp : Nat} (e1 : w.cell? ⟨d, 1, none⟩ = some (.slice (some ⟨g, 0, none⟩) n cp)) {i : Nat} (hi : i < n) :
    Calls Tryz.prog 98 #[.pointer (some ⟨d, 0, none⟩), .int .i64 (i : Int)] w fun ev w' => ev = .returned (.tuple #[.pointer (some ⟨g, i * 2, none⟩), .nilIface]) ∧ Below w.heap.size w w' := by
  have h0 : decide ((i : Int) < 0) = false := by simp
  have h1 : decide ((i : Int) ≥ n) = false := by simp; omega
  have h2 : (0 : Int) ≤ i := by omega
  have h3 : (i : Int) < n := by omega
  go_enter Tryz.func98, Tryz.ntmps98
  go_wp2
  go_ret2
  exact ⟨rfl, Below.refl _ _⟩
theorem worker_no {w : World} {d g n cp : Nat} (e1 : w.cell? ⟨d, 1, none⟩ = some (.slice (some ⟨g, 0, none⟩) n cp)) {x : Int} (hx : x < 0 ∨ (n : Int) ≤ x) (e : Nat → Addr) (he : ErrsM w e) :
    Calls Tryz.prog 98 #[.pointer (some ⟨d, 0, none⟩), .int .i64 x] w fun ev w' => ev = .returned (.tuple #[.pointer none, errV (e 1)]) ∧ Below w.heap.size w w' := by
  have E1 := he.v1
  clear he
  unfold errV at *
  by_cases hx0 : x < 0
  · have h0 : decide (x < 0) = true := by simpa using hx0
    go_enter Tryz.func98, Tryz.ntmps98
    go_wp2
    go_quiet (fail)
    go_wp2
    go_ret2
    exact ⟨rfl, bdN (Below.refl _ _) _⟩
  · have h0 : decide (x < 0) = false := by simpa using hx0
    have h1 : decide (x ≥ n) = true := by simp; omega
    go_enter Tryz.func98, Tryz.ntmps98
    go_wp2
    go_quiet (fail)
    go_wp2
    go_ret2
    exact ⟨rfl, bdN (Below.refl _ _) _⟩
theorem flatP_set : ∀ (l : List (Nat × Nat)) (i : Nat) (a b : Nat), ((flatP l).set (i * 2) (ptr a)).set (i * 2 + 1) (ptr b) = flatP (l.set i (a, b))
  | [], i, a, b => by simp [flatP]
  | y :: l, 0, a, b => rfl
  | y :: l, i + 1, a, b => by
    have := flatP_set l i a b
    have e : flatP (y :: l) = ptr y.1 :: ptr y.2 :: flatP l := rfl
    have e2 : flatP ((y :: l).set (i + 1) (a, b)) = ptr y.1 :: ptr y.2 :: flatP (l.set i (a, b)) := rfl
    rw [e, e2, show (i + 1) * 2 = i * 2 + 1 + 1 from by omega, ← this]
    rfl
/-- A pair's two cells. -/
theorem pair_set {N0 : Nat} {w : World} {g cp : Nat} {ws : List (Nat × Nat)} (ho : w.ownsRow N0 177 2 (.slice (some ⟨g, 0, none⟩) ws.length cp) ws.length (flatP ws)) (i a b : Nat) :
    ((w.setCell ⟨g, i * 2, none⟩ (ptr a)).setCell ⟨g, i * 2 + 1, none⟩ (ptr b)).ownsRow N0 177 2 (.slice (some ⟨g, 0, none⟩) ws.length cp) ws.length (flatP (ws.set i (a, b))) ∧ Chg [some 177] N0 w ((w.setCell ⟨g, i * 2, none⟩ (ptr a)).setCell ⟨g, i * 2 + 1, none⟩ (ptr b)) ∧ Kept g g w ((w.setCell ⟨g, i * 2, none⟩ (ptr a)).setCell ⟨g, i * 2 + 1, none⟩ (ptr b)) := by
  have hg : N0 ≤ g := (ho.lt g rfl).1
  have ht : Tag w g 177 := by
    rcases ho.2 with ⟨e, _⟩ | ⟨g', cap, cur, e, _, hh, _⟩
    · cases e
    · simp only [Value.slice.injEq, Option.some.injEq, Addr.mk.injEq] at e
      obtain ⟨⟨rfl, _⟩, _⟩ := e
      exact ⟨cur, _, hh⟩
  have h1 := (ho.stored (i * 2) (ptr a)).1
  have h2 := (h1.stored (i * 2 + 1) (ptr b)).1
  rw [flatP_set] at h2
  exact ⟨h2, (Chg.set ht hg _ _).trans (Chg.set (ht.set _ _) hg _ _), (kept_set _ _ _).trans (kept_set _ _ _)⟩
/-- The pair i changes its places. -/
theorem swap_ok {N0 : Nat} {w : World} {g cp : Nat} {ws : List (Nat × Nat)} (ho : w.ownsRow N0 177 2 (.slice (some ⟨g, 0, none⟩) ws.length cp) ws.length (flatP ws)) {i a b : Nat} (hi : ws[i]? = some (a, b)) :
    Calls Tryz.prog 167 #[.pointer (some ⟨g, i * 2, none⟩)] w fun ev w' => ev = .returned (.tuple #[]) ∧ w'.ownsRow N0 177 2 (.slice (some ⟨g, 0, none⟩) ws.length cp) ws.length (flatP (ws.set i (b, a))) ∧ Chg [some 177] N0 w w' ∧ Kept g g w w' := by
  obtain ⟨e0, e1⟩ := flatP_get ws i (a, b) hi
  have hn : i < ws.length := (List.getElem?_eq_some_iff.mp hi).1
  have x0 := (ho.cellAt (i * 2) (by omega)).trans e0
  have x1 := (ho.cellAt (i * 2 + 1) (by omega)).trans e1
  have f0 := ho.frozenAt (i * 2)
  have f1 := ho.frozenAt (i * 2 + 1)
  unfold ptr at x0 x1
  go_enter Tryz.func167, Tryz.ntmps167
  go_wp2
  go_region
  go_end0
  obtain ⟨h1, h2, h3⟩ := pair_set ho i b a
  exact ⟨rfl, own_b h1 (drw _), (h2.trans (Chg.below (drw _))), h3.trans (kept_of (drw _))⟩
end Mg
end Go.Proofs.YtcbmfakjfoggaaaGreatDoor
namespace Go.Proofs.YtcbmfakjfoggaaaGreatDoor
open Go.RowKit Go.Maps
namespace Mg
open Fr Bd Zn Dz Sb
/-- Is it another object? -/
def oth (a b : Int) (x : Bl) : Bool := !decide (x.1 = a ∧ x.2 = b)
abbrev objO (a b : Int) : Obj := .cells #[.int .i64 a, .int .i64 b] 34
theorem eq_ok (x1 x2 a b : Int) (cb : Nat) (w : World) (h0 : w.cell? ⟨cb, 0, none⟩ = some (.int .i64 a)) (h1 : w.cell? ⟨cb, 1, none⟩ = some (.int .i64 b)) (hlt : cb < w.heap.size) :
    Calls Tryz.prog 217 #[(.agg #[.int .i64 x1, .int .i64 x2]), .pointer (some ⟨cb, 0, none⟩)] w fun ev w' => ev = .returned (.bool (!oth a b (x1, x2))) ∧ w' = w.alloc (objO x1 x2) := by
  have g0 : (w.alloc (objO x1 x2)).cell? ⟨cb, 0, none⟩ = some (.int .i64 a) := ((ballo (Below.refl _ _) _).cell (p := ⟨cb, 0, none⟩) hlt).trans h0
  have g1 : (w.alloc (objO x1 x2)).cell? ⟨cb, 1, none⟩ = some (.int .i64 b) := ((ballo (Below.refl _ _) _).cell (p := ⟨cb, 1, none⟩) hlt).trans h1
  have e : (!oth a b (x1, x2)) = (decide (x1 = a) && decide (x2 = b)) := by simp [oth]
  rw [e]
  clear h0 h1 e
  go_enter Tryz.func217, Tryz.ntmps217
  go_wp2
  all_goals
    go_ret
    exact ⟨by simp_all, by simp_all⟩
theorem eq_yes (x1 x2 a b : Int) (cb : Nat) (w : World) (h0 : w.cell? ⟨cb, 0, none⟩ = some (.int .i64 a)) (h1 : w.cell? ⟨cb, 1, none⟩ = some (.int .i64 b)) (hlt : cb < w.heap.size) (hq : oth a b (x1, x2) = false) :
    Calls Tryz.prog 217 #[(.agg #[.int .i64 x1, .int .i64 x2]), .pointer (some ⟨cb, 0, none⟩)] w fun ev w' => ev = .returned (.bool true) ∧ w' = w.alloc (objO x1 x2) := by
  have := eq_ok x1 x2 a b cb w h0 h1 hlt
  rwa [hq] at this
theorem eq_no (x1 x2 a b : Int) (cb : Nat) (w : World) (h0 : w.cell? ⟨cb, 0, none⟩ = some (.int .i64 a)) (h1 : w.cell? ⟨cb, 1, none⟩ = some (.int .i64 b)) (hlt : cb < w.heap.size) (hq : oth a b (x1, x2) = true) :
    Calls Tryz.prog 217 #[(.agg #[.int .i64 x1, .int .i64 x2]), .pointer (some ⟨cb, 0, none⟩)] w fun ev w' => ev = .returned (.bool false) ∧ w' = w.alloc (objO x1 x2) := by
  have := eq_ok x1 x2 a b cb w h0 h1 hlt
  rwa [hq] at this
set_option maxHeartbeats 1000000 in
theorem oindex_ok (L : List Bl) (g cap cb : Nat) (a b : Int) (w : World) (hr : Row w g L) (hl : L.length ≤ 256) (hc : w.cell? ⟨cb, 0, none⟩ = some (.int .i64 a)) (hd : w.cell? ⟨cb, 1, none⟩ = some (.int .i64 b)) (hlt : cb < w.heap.size) :
    Calls Tryz.prog 255 #[.slice (some ⟨g, 0, none⟩) L.length cap, .func (.func 217) #[] #[.pointer (some ⟨cb, 0, none⟩)]] w fun ev w' => Below w.heap.size w w' ∧
      ((ev = .returned (.int .i64 (-1)) ∧ ∀ j, j < L.length → oth a b (L.getD j (0, 0)) = true) ∨ ∃ i : Nat, i < L.length ∧ ev = .returned (.int .i64 i) ∧ oth a b (L.getD i (0, 0)) = false ∧ ∀ j, j < i → oth a b (L.getD j (0, 0)) = true) := by
  have HR := hide hr
  clear hr
  generalize hn : L.length = n at *
  go_enter Tryz.func255, Tryz.ntmps255
  go_wp2
  go_loopw [8] (fun s wr => ∃ i : Nat, s = .int .i64 i ∧ i ≤ n ∧ Below w.heap.size w wr ∧ Hid (∀ j, j < i → oth a b (L.getD j (0, 0)) = true)) (fun s _ => n - (RowKit.intOf s).toNat)
  case atStart => exact ⟨0, rfl, Nat.zero_le _, Below.refl _ _, fun j hj => by omega⟩
  case round =>
    obtain ⟨i, rfl, hi, hb, ha⟩ := hrel
    by_cases hin : i < n
    · have hcb := (hb.cell (p := ⟨cb, 0, none⟩) hlt).trans hc
      have hdb := (hb.cell (p := ⟨cb, 1, none⟩) hlt).trans hd
      have hz := hb.size
      have cc := ((unhide HR).b hb).c i (by omega)
      have HX := hide (show oth a b (L.getD i (0, 0)) = true ∨ oth a b (L.getD i (0, 0)) = false by cases oth a b (L.getD i (0, 0)) <;> simp)
      obtain ⟨c1, c2⟩ := cc
      obtain ⟨x, hx⟩ : ∃ x, x = L.getD i (0, 0) := ⟨_, rfl⟩
      rw [← hx] at c1 c2 HX
      have HXE := hide hx
      clear hx
      obtain ⟨x1, x2⟩ := x
      simp only at c1 c2 HX
      rcases unhide HX with hk | hk
      · have hq := hk
        go_wp2_with fail
        refine (eq_no x1 x2 a b cb _ hcb hdb (by omega) hk).mono ?_
        rintro ev w2 ⟨rfl, rfl⟩
        go_wp2_with fail
        go_roundw
        case rel => exact ⟨i + 1, by go_num, by omega, ballo hb _, fun j hj => by
          by_cases e : j = i
          · subst e; rw [← unhide HXE]; exact hk
          · exact (unhide ha) j (by omega)⟩
        case measure => simp [RowKit.intOf]; omega
      · have hq := hk
        go_wp2_with fail
        refine (eq_yes x1 x2 a b cb _ hcb hdb (by omega) hk).mono ?_
        rintro ev w2 ⟨rfl, rfl⟩
        go_wp2_with fail
        go_ret
        exact ⟨ballo hb _, Or.inr ⟨i, by omega, rfl, by rw [← unhide HXE]; exact hk, unhide ha⟩⟩
    · have hin2 : i = n := by omega
      subst hin2
      go_wp2
      go_ret
      exact ⟨hb, Or.inl ⟨rfl, unhide ha⟩⟩
/-- How far the deletion has come. -/
structure KO (p : Bl → Bool) (L R : List Bl) (i j : Nat) : Prop where
  len : R.length = L.length
  lt : i < j
  le : j ≤ L.length
  took : R.take i = (L.take j).filter p
  rest : ∀ m, j ≤ m → R.getD m (0, 0) = L.getD m (0, 0)
theorem KO.start {p : Bl → Bool} {L : List Bl} {i : Nat} (hi : i < L.length) (h1 : p (L.getD i (0, 0)) = false) (h2 : ∀ j, j < i → p (L.getD j (0, 0)) = true) : KO p L L i (i + 1) := by
  refine ⟨rfl, by omega, by omega, ?_, fun _ _ => rfl⟩
  rw [List.take_succ_eq_append_getElem hi, List.filter_append]
  rw [getD_lt hi] at h1
  have e1 : (L.take i).filter p = L.take i := List.filter_eq_self.2 (fun x hx => by
    obtain ⟨m, hm, rfl⟩ := List.getElem_of_mem hx
    have hm' : m < i := by simp at hm; omega
    have := h2 m hm'
    rw [getD_lt (by omega)] at this
    simpa using this)
  rw [e1]
  simp [h1]
theorem KO.skip {p : Bl → Bool} {L R : List Bl} {i j : Nat} (h : KO p L R i j) (hj : j < L.length) (h1 : p (L.getD j (0, 0)) = false) : KO p L R i (j + 1) := by
  refine ⟨h.len, by have := h.lt; omega, by omega, ?_, fun m hm => h.rest m (by omega)⟩
  rw [List.take_succ_eq_append_getElem hj, List.filter_append, h.took]
  rw [getD_lt hj] at h1
  simp [h1]
theorem KO.keep {p : Bl → Bool} {L R : List Bl} {i j : Nat} (h : KO p L R i j) (hj : j < L.length) (h1 : p (L.getD j (0, 0)) = true) : KO p L (R.set i (L.getD j (0, 0))) (i + 1) (j + 1) := by
  have hl := h.len
  have hlt := h.lt
  refine ⟨by simpa using h.len, by omega, by omega, ?_, fun m hm => ?_⟩
  · rw [List.take_succ_eq_append_getElem hj, List.filter_append, ← h.took]
    rw [getD_lt hj] at h1 ⊢
    rw [List.take_succ_eq_append_getElem (by simp; omega)]
    rw [List.take_set, List.filter_cons, if_pos (by simpa using h1)]
    simp
    exact List.set_eq_of_length_le (by simp; omega)
  · rw [← h.rest m (by omega)]
    simp [List.getD_eq_getElem?_getD, show i ≠ m by omega]
theorem KO.done {p : Bl → Bool} {L R : List Bl} {i : Nat} (h : KO p L R i L.length) : R.take i = L.filter p ∧ i = (L.filter p).length := by
  have e := h.took
  rw [List.take_length] at e
  refine ⟨e, ?_⟩
  rw [← e, List.length_take, h.len]
  have := h.lt
  omega

theorem oclear_run (w : World) (g i n c ty : Nat) (R : List Bl) (hr : Row w g R) (hi : i < R.length) (hn : n = R.length - i) :
    (Builtin.clear_ #[32] ty #[.slice (some ⟨g, i * 2, none⟩) n c]).run Tryz.prog w = .ok (.tuple #[]) (w.setCells g (i * 2) (List.replicate (n * 2) (.int .i64 0))) := by
  have hst := run_storeCells_cells (P := Tryz.prog) g (i * 2) (List.replicate (n * 2) (.int .i64 0)) 0 w (fun j hj => by
    simp at hj
    have e : i * 2 + 0 + j = (i + j / 2) * 2 + j % 2 := by omega
    have hc := hr.c (i + j / 2) (by omega)
    rw [e]
    rcases (by omega : j % 2 = 0 ∨ j % 2 = 1) with h | h
    · rw [h]; simp [hc.1]
    · rw [h]; simp [hc.2]) (fun j hj => hr.fz _ (by simp at hj; omega)) (by intro v hv'; rw [List.eq_of_mem_replicate hv']; rfl)
  simp only [Nat.add_zero] at hst
  obtain ⟨m, rfl⟩ : ∃ m, n = m + 1 := ⟨n - 1, by omega⟩
  have hz : ∀ w, (zeroValue 34).run Tryz.prog w = .ok (.agg #[.int .i64 0, .int .i64 0]) w := fun w => by kernel_rfl
  have hcs : (Value.agg #[.int .i64 0, .int .i64 0]).cells = #[.int .i64 0, .int .i64 0] := rfl
  simp [Builtin.clear_, run_underlying Tryz.underlying32, hz, hcs, zeros, hst]
/-- The block g keeps its form. -/
def Fm (g : Nat) (w w' : World) : Prop := ∀ cur t, w.heap[g]? = some (.cells cur t (0, 0)) → ∃ cur' : Array Value, w'.heap[g]? = some (.cells cur' t (0, 0)) ∧ cur'.size = cur.size
/-- Only the block g turns, and keeps its form. -/
structure KF (g : Nat) (w w' : World) : Prop where
  k : Kept g g w w'
  f : Fm g w w'
theorem kf_of {g : Nat} {w w' : World} (h : Below w.heap.size w w') : KF g w w' := ⟨kept_of h, fun cur _t e => ⟨cur, (h.block g (Array.getElem?_eq_some_iff.mp e).1).trans e, rfl⟩⟩
theorem KF.refl (g : Nat) (w : World) : KF g w w := kf_of (Below.refl _ _)
theorem KF.trans {g : Nat} {a b c : World} (h : KF g a b) (k : KF g b c) : KF g a c := ⟨h.k.trans k.k, fun cur t e => by
  obtain ⟨c1, e1, s1⟩ := h.f cur t e
  obtain ⟨c2, e2, s2⟩ := k.f c1 t e1
  exact ⟨c2, e2, s2.trans s1⟩⟩
theorem kf_set {g : Nat} (w : World) (o : Nat) (v : Value) : KF g w (w.setCell ⟨g, o, none⟩ v) := ⟨kept_set w o v, fun cur t e => ⟨_, heap_setCell_same w g o cur t v e, by simp⟩⟩
theorem kf_sets {g : Nat} : ∀ (vs : List Value) (o : Nat) (w : World), KF g w (w.setCells g o vs)
  | [], _, _ => KF.refl _ _
  | v :: r, o, w => (kf_set w o v).trans (kf_sets r (o + 1) _)
set_option maxHeartbeats 4000000 in
theorem odelete_ok (L : List Bl) (g cap cb : Nat) (a b : Int) (w : World) (hr : Row w g L) (hl : L.length ≤ 256) (hcap : L.length ≤ cap) (hc : w.cell? ⟨cb, 0, none⟩ = some (.int .i64 a)) (hd : w.cell? ⟨cb, 1, none⟩ = some (.int .i64 b)) (hlt : cb < w.heap.size) (hne : cb ≠ g) :
    Calls Tryz.prog 216 #[.slice (some ⟨g, 0, none⟩) L.length cap, .func (.func 217) #[] #[.pointer (some ⟨cb, 0, none⟩)]] w fun ev w' => KF g w w' ∧
      ∃ M, M = L.filter (oth a b) ∧ ev = .returned (.slice (some ⟨g, 0, none⟩) M.length cap) ∧ Row w' g M := by
  have HI := hide (oindex_ok L g cap cb a b w hr hl hc hd hlt)
  have HR := hide hr
  have hgl := hr.lt
  clear hr
  generalize hn : L.length = n at *
  have HN := hide hn
  go_enter Tryz.func216, Tryz.ntmps216
  go_wp2_with fail
  refine (unhide HI).mono ?_
  rintro ev w1 ⟨hb1, ⟨rfl, ha⟩ | ⟨i0, hi0, rfl, h1, h2⟩⟩
  · have HA := hide ha
    clear ha HI
    have hne1 : ((-1 : Int) == -1) = true := rfl
    go_wp2
    go_ret
    have e : L.filter (oth a b) = L := List.filter_eq_self.2 (fun x hx => by
      obtain ⟨m, hm, rfl⟩ := List.getElem_of_mem hx
      have := (unhide HA) m (by omega)
      rw [getD_lt hm] at this
      exact this)
    exact ⟨kf_of hb1, L, e.symm, by rw [hn]; rfl, (unhide HR).b hb1⟩
  · have K0 := hide (KO.start (p := oth a b) (by omega : i0 < L.length) h1 h2)
    have R0 := hide ((unhide HR).b hb1)
    have hz1 := hb1.size
    have B1 := hide hb1
    have hcb1 := (hb1.cell (p := ⟨cb, 0, none⟩) hlt).trans hc
    have hdb1 := (hb1.cell (p := ⟨cb, 1, none⟩) hlt).trans hd
    clear h1 h2 HI hb1 hc hd
    have hne1 : ((i0 : Int) == -1) = false := beq_eq_false_iff_ne.2 (by omega)
    go_wp2
    go_loopw [5, 6, 7] (fun s5 s6 _ wr => ∃ (i j : Nat) (R : List Bl), s5 = .int .i64 i ∧ s6 = .int .i64 j ∧ i < j ∧ j ≤ n ∧ Hid (KO (oth a b) L R i j) ∧ Hid (Row wr g R) ∧ KF g w1 wr) (fun _ s6 _ _ => n - (RowKit.intOf s6).toNat)
    case atStart => exact ⟨i0, i0 + 1, L, rfl, by go_num, by omega, by omega, K0, R0, KF.refl _ _⟩
    case round =>
      obtain ⟨i, j, R, rfl, rfl, hij, hjn, hK, hRw, hk⟩ := hrel
      have hRl : R.length = n := by rw [(unhide hK).len]; exact hn
      by_cases hjlt : j < n
      · have cc := (unhide hRw).c j (by omega)
        have ci := (unhide hRw).c i (by omega)
        have f1 := (unhide hRw).fz (i * 2) (by omega)
        have f2 := (unhide hRw).fz (i * 2 + 1) (by omega)
        have hcw : wr.cell? ⟨cb, 0, none⟩ = some (.int .i64 a) := (hk.k.cell (p := ⟨cb, 0, none⟩) (by simp only; omega) hne hne).trans hcb1
        have hdw : wr.cell? ⟨cb, 1, none⟩ = some (.int .i64 b) := (hk.k.cell (p := ⟨cb, 1, none⟩) (by simp only; omega) hne hne).trans hdb1
        have hz2 := hk.k.size
        have hgw := (unhide hRw).lt
        rw [(unhide hK).rest j (Nat.le_refl _)] at cc
        obtain ⟨x, hx⟩ : ∃ x, x = L.getD j (0, 0) := ⟨_, rfl⟩
        rw [← hx] at cc
        have HX := hide hx
        clear hx
        obtain ⟨x1, x2⟩ := x
        generalize R.getD i (0, 0) = y at ci
        obtain ⟨c1, c2⟩ := cc
        obtain ⟨i1, i2⟩ := ci
        simp only at c1 c2
        have hcw2 : (wr.alloc (objO x1 x2)).cell? ⟨cb, 0, none⟩ = some (.int .i64 a) := ((ballo (Below.refl _ _) _).cell (p := ⟨cb, 0, none⟩) (by simp only; omega)).trans hcw
        have hdw2 : (wr.alloc (objO x1 x2)).cell? ⟨cb, 1, none⟩ = some (.int .i64 b) := ((ballo (Below.refl _ _) _).cell (p := ⟨cb, 1, none⟩) (by simp only; omega)).trans hdw
        cases hlo : oth a b (x1, x2) with
        | false =>
          go_wp2_with fail
          refine (eq_yes x1 x2 a b cb _ hcw2 hdw2 (by simp [objO]; omega) hlo).mono ?_
          rintro ev w3 ⟨rfl, rfl⟩
          go_wp2_with fail
          go_roundw
          case rel =>
            have b2 := ballo (ballo (Below.refl _ wr) (objO x1 x2)) (objO x1 x2)
            exact ⟨i, j + 1, R, rfl, by go_num, by omega, by omega, (unhide hK).skip (by omega) (by rw [← unhide HX]; exact hlo), (unhide hRw).b b2, hk.trans (kf_of b2)⟩
          case measure => simp [RowKit.intOf]; omega
        | true =>
          have s1 := ballo (ballo (Below.refl _ wr) (objO x1 x2)) (objO x1 x2)
          have t1 := (s1.cell (p := ⟨g, i * 2, none⟩) hgw).trans i1
          have t2 := (s1.cell (p := ⟨g, i * 2 + 1, none⟩) hgw).trans i2
          have t3 := (s1.frozen (p := ⟨g, i * 2, none⟩) hgw).trans f1
          have t4 := (s1.frozen (p := ⟨g, i * 2 + 1, none⟩) hgw).trans f2
          have hin : i < n := by omega
          go_wp2_with fail
          refine (eq_no x1 x2 a b cb _ hcw2 hdw2 (by simp [objO]; omega) hlo).mono ?_
          rintro ev w3 ⟨rfl, rfl⟩
          go_wp2_with fail
          go_roundw
          case rel =>
            have r2 := (unhide hRw).two (i := i) (by omega) x1 x2
            have s2 := ballo (ballo (Below.refl _ ((wr.setCell ⟨g, i * 2, none⟩ (.int .i64 x1)).setCell ⟨g, i * 2 + 1, none⟩ (.int .i64 x2))) (objO x1 x2)) (objO x1 x2)
            refine ⟨i + 1, j + 1, R.set i (x1, x2), by go_num, by go_num, by omega, by omega, ?_, r2.b s2, hk.trans (((kf_set _ _ _).trans (kf_set _ _ _)).trans (kf_of s2))⟩
            have := (unhide hK).keep (by omega) (by rw [← unhide HX]; exact hlo)
            rwa [← unhide HX] at this
          case measure => simp [RowKit.intOf]; omega
      · have hjn2 : j = n := by omega
        subst hjn2
        have hkd := (unhide hK)
        rw [← hn] at hkd
        obtain ⟨d1, d2⟩ := hkd.done
        have HD1 := hide d1
        have HD2 := hide d2
        clear hkd d1 d2
        have hin : i < j := hij
        have hcl := fun ty => oclear_run wr g i (j - i) (cap - i) ty R (unhide hRw) (by omega) (by omega)
        go_wp2
        go_ret
        refine ⟨(kf_of (unhide B1)).trans (hk.trans (kf_sets _ _ _)), _, rfl, by rw [← unhide HD2]; rfl, ?_⟩
        rw [← unhide HD1]
        exact (unhide hRw).cleared i (by omega) _
end Mg
end Go.Proofs.YtcbmfakjfoggaaaGreatDoor
namespace Go.Proofs.YtcbmfakjfoggaaaGreatDoor
open Go.RowKit Go.Maps
namespace Mg
open Fr Bd Zn Dz Sb
/-- The top object of a tray in block t. -/
theorem filter_top {xs : List Bl} {o : Bl} (h : (xs ++ [o]).Nodup) : (xs ++ [o]).filter (oth o.1 o.2) = xs := by
  have hno : o ∉ xs := by
    intro hm
    have := List.nodup_append.1 h
    exact this.2.2 o hm o (by simp) rfl
  rw [List.filter_append]
  have e1 : xs.filter (oth o.1 o.2) = xs := List.filter_eq_self.2 (fun x hx => by
    unfold oth
    have : ¬ (x.1 = o.1 ∧ x.2 = o.2) := fun ⟨h1, h2⟩ => hno (by rw [show o = x from Prod.ext h1.symm h2.symm]; exact hx)
    simp [this])
  have e2 : [o].filter (oth o.1 o.2) = [] := by simp [oth]
  rw [e1, e2, List.append_nil]
/-- Blocks beyond such ones stay. -/
structure Kp (S : Nat → Prop) (w w' : World) : Prop where
  os : w'.os = w.os
  tape : w'.tape = w.tape
  output : w'.output = w.output
  size : w.heap.size ≤ w'.heap.size
  blk : ∀ k, k < w.heap.size → ¬ S k → w'.heap[k]? = w.heap[k]?
section
variable {S T : Nat → Prop} {w w1 w' : World}
theorem Kp.below (h : Below w.heap.size w w') : Kp S w w' := ⟨h.os, h.tape, h.output, h.size, fun k hk _ => h.block k hk⟩
theorem Kp.refl (S : Nat → Prop) (w : World) : Kp S w w := Kp.below (Below.refl _ _)
theorem Kp.trans (h : Kp S w w1) (k : Kp S w1 w') : Kp S w w' := ⟨k.os.trans h.os, k.tape.trans h.tape, k.output.trans h.output, Nat.le_trans h.size k.size, fun j hj hn => (k.blk j (Nat.lt_of_lt_of_le hj h.size) hn).trans (h.blk j hj hn)⟩
theorem Kp.kept {A B : Nat} (h : Kept A B w w') (hA : S A) (hB : S B) : Kp S w w' := ⟨h.os, h.tape, h.output, h.size, fun k hk hn => h.block k hk (fun e => hn (e ▸ hA)) (fun e => hn (e ▸ hB))⟩
theorem Kp.mono (h : Kp S w w') (hs : ∀ k, k < w.heap.size → S k → T k) : Kp T w w' := ⟨h.os, h.tape, h.output, h.size, fun k hk hn => h.blk k hk (fun hS => hn (hs k hk hS))⟩
theorem Kp.cell (h : Kp S w w') {p : Addr} (hp : p.block < w.heap.size) (hn : ¬ S p.block) : w'.cell? p = w.cell? p := World.cell?_of_block (w := w) (h.blk p.block hp hn)
theorem Kp.set (w : World) (b o : Nat) (v : Value) (hb : S b) : Kp S w (w.setCell ⟨b, o, none⟩ v) := Kp.kept (kept_set w o v) hb hb
end
/-- A row of objects, from its block's cells. -/
theorem row_own {N0 : Nat} {w w' : World} {g n cap n' : Nat} {xs ys : List Value} (h : w.ownsRow N0 34 2 (.slice (some ⟨g, 0, none⟩) n cap) n xs) (cur' : Array Value) (hb : w'.heap[g]? = some (.cells cur' 34 (0, 0))) (hs : cur'.size = cap * 2) (hn : n' ≤ cap) (hl : ys.length = n' * 2) (hy : cur'.toList.take (n' * 2) = ys) : w'.ownsRow N0 34 2 (.slice (some ⟨g, 0, none⟩) n' cap) n' ys := by
  rcases h.2 with ⟨e, _⟩ | ⟨g', cap', cur, e, hg, hh, h1, h2, h3, h4⟩
  · cases e
  · simp only [Value.slice.injEq, Option.some.injEq, Addr.mk.injEq, and_true, true_and] at e
    obtain ⟨rfl, rfl⟩ := e
    exact ⟨hl, Or.inr ⟨g, cap, cur', rfl, hg, hb, hn, h2, hs, hy⟩⟩
end Mg
end Go.Proofs.YtcbmfakjfoggaaaGreatDoor
