/- The library's slices.DeleteFunc at blocks, with the function that fit hands to it · The library's slices.MinFunc at blocks, with the function that fit hands to it: of the least order the first. -/
import Derived.Test.YtcbmfakjfoggaaaGreatDoorG02
import Derived.Deep.RegionHeld3
import Derived.Deep.QuietTactic
import Derived.BigQuiet
namespace Go.Proofs.YtcbmfakjfoggaaaGreatDoor
open Go.RowKit
namespace Bd
open Fr
theorem cso {w : World} {a b : Addr} {v : Value} (h : a ≠ b) : (w.setCell a v).cell? b = w.cell? b := by
  apply World.cell?_setCell_other; exact h
theorem css {w : World} {a : Addr} {u v : Value} (h : w.cell? a = some u) : (w.setCell a v).cell? a = some v := by
  apply World.cell?_setCell_same; exact h
theorem Row.two {w : World} {g : Nat} {R : List Bl} (h : Row w g R) {i : Nat} (hi : i < R.length) (a k : Int) : Row ((w.setCell ⟨g, i * 2, none⟩ (.int .i64 a)).setCell ⟨g, i * 2 + 1, none⟩ (.int .i64 k)) g (R.set i (a, k)) := by
  refine ⟨fun j hj => ?_, fun o ho => by simp only [World.frozen?_setCell]; exact h.fz o (by simpa using ho), by simpa [World.setCell] using h.lt⟩
  have hj' : j < R.length := by simpa using hj
  have hc := h.c j hj'
  by_cases e : j = i
  · subst e
    have e1 : (R.set j (a, k)).getD j (0, 0) = (a, k) := by simp [List.getD_eq_getElem?_getD, hj']
    rw [e1]
    constructor
    · rw [cso (by simp), css hc.1]
    · exact css (u := .int .i64 (R.getD j (0, 0)).2) (by rw [cso (by simp)]; exact hc.2)
  · have e1 : (R.set i (a, k)).getD j (0, 0) = R.getD j (0, 0) := by simp [List.getD_eq_getElem?_getD, Ne.symm e]
    rw [e1]
    constructor
    · rw [cso (by simp <;> omega), cso (by simp <;> omega)]; exact hc.1
    · rw [cso (by simp <;> omega), cso (by simp <;> omega)]; exact hc.2
theorem kept_set {g : Nat} (w : World) (o : Nat) (v : Value) : Kept g g w (w.setCell ⟨g, o, none⟩ v) :=
  ⟨rfl, rfl, rfl, by simp [World.setCell], fun k _ h1 _ => Below.heap_setCell _ _ _ _ h1⟩

/-- How far the deletion has come. -/
structure KI (o : Int) (L R : List Bl) (i j : Nat) : Prop where
  len : R.length = L.length
  lt : i < j
  le : j ≤ L.length
  took : R.take i = (L.take j).filter (fun x => decide (o ≤ x.2))
  rest : ∀ m, j ≤ m → R.getD m (0, 0) = L.getD m (0, 0)
theorem getD_lt {L : List Bl} {i : Nat} (h : i < L.length) : L.getD i (0, 0) = L[i] := by rw [List.getD_eq_getElem?_getD, List.getElem?_eq_getElem h, Option.getD_some]
theorem KI.start {o : Int} {L : List Bl} {i : Nat} (hi : i < L.length) (h1 : (L.getD i (0, 0)).2 < o) (h2 : ∀ j, j < i → o ≤ (L.getD j (0, 0)).2) : KI o L L i (i + 1) := by
  refine ⟨rfl, by omega, by omega, ?_, fun _ _ => rfl⟩
  rw [List.take_succ_eq_append_getElem hi, List.filter_append]
  rw [getD_lt hi] at h1
  have e1 : (L.take i).filter (fun x => decide (o ≤ x.2)) = L.take i := List.filter_eq_self.2 (fun x hx => by
    obtain ⟨m, hm, rfl⟩ := List.getElem_of_mem hx
    have hm' : m < i := by simp at hm; omega
    have := h2 m hm'
    rw [getD_lt (by omega)] at this
    simpa using this)
  rw [e1]
  simp [show ¬ o ≤ L[i].2 by omega]
theorem KI.skip {o : Int} {L R : List Bl} {i j : Nat} (h : KI o L R i j) (hj : j < L.length) (h1 : (L.getD j (0, 0)).2 < o) : KI o L R i (j + 1) := by
  refine ⟨h.len, by have := h.lt; omega, by omega, ?_, fun m hm => h.rest m (by omega)⟩
  rw [List.take_succ_eq_append_getElem hj, List.filter_append, h.took]
  rw [getD_lt hj] at h1
  simp [show ¬ o ≤ L[j].2 by omega]
theorem KI.keep {o : Int} {L R : List Bl} {i j : Nat} (h : KI o L R i j) (hj : j < L.length) (h1 : o ≤ (L.getD j (0, 0)).2) : KI o L (R.set i (L.getD j (0, 0))) (i + 1) (j + 1) := by
  have hl := h.len
  have hlt := h.lt
  refine ⟨by simpa using h.len, by omega, by omega, ?_, fun m hm => ?_⟩
  · rw [List.take_succ_eq_append_getElem hj, List.filter_append, ← h.took]
    rw [getD_lt hj] at h1 ⊢
    rw [List.take_succ_eq_append_getElem (by simp; omega)]
    rw [List.take_set, List.filter_cons, if_pos (by simpa using h1)]
    simp
    exact List.set_eq_of_length_le (by simp; omega)
  · rw [← h.rest m (by omega)]
    simp [List.getD_eq_getElem?_getD, show i ≠ m by omega]
theorem KI.done {o : Int} {L R : List Bl} {i : Nat} (h : KI o L R i L.length) : R.take i = L.filter (fun x => decide (o ≤ x.2)) ∧ i = (L.filter (fun x => decide (o ≤ x.2))).length := by
  have e := h.took
  rw [List.take_length] at e
  refine ⟨e, ?_⟩
  rw [← e, List.length_take, h.len]
  have := h.lt
  omega

theorem zeros (n : Nat) : (Builtin.zeroCells #[.int .i64 0, .int .i64 0] n).toList = List.replicate (n * 2) (.int .i64 0) := by
  simp [Builtin.zeroCells]
  apply List.ext_getElem
  · simp
  · intro i h1 h2
    simp
    have : i % 2 = 0 ∨ i % 2 = 1 := by omega
    rcases this with e | e <;> simp [e]
theorem clear_run (w : World) (g i n c ty : Nat) (R : List Bl) (hr : Row w g R) (hi : i < R.length) (hn : n = R.length - i) :
    (Builtin.clear_ #[322] ty #[.slice (some ⟨g, i * 2, none⟩) n c]).run Tryz.prog w = .ok (.tuple #[]) (w.setCells g (i * 2) (List.replicate (n * 2) (.int .i64 0))) := by
  have hst := run_storeCells_cells (P := Tryz.prog) g (i * 2) (List.replicate (n * 2) (.int .i64 0)) 0 w (fun j hj => by
    simp at hj
    have e : i * 2 + 0 + j = (i + j / 2) * 2 + j % 2 := by omega
    have hc := hr.c (i + j / 2) (by omega)
    rw [e]
    rcases (by omega : j % 2 = 0 ∨ j % 2 = 1) with h | h
    · rw [h]; simp [hc.1]
    · rw [h]; simp [hc.2]) (fun j hj => hr.fz _ (by simp at hj; omega)) (by intro v hv'; rw [List.eq_of_mem_replicate hv']; rfl)
  simp only [Nat.add_zero] at hst
  obtain ⟨m, rfl⟩ : ∃ m, n = m + 1 := ⟨n - 1, by omega⟩
  have hz : ∀ w, (zeroValue 291).run Tryz.prog w = .ok (.agg #[.int .i64 0, .int .i64 0]) w := fun w => by kernel_rfl
  have hcs : (Value.agg #[.int .i64 0, .int .i64 0]).cells = #[.int .i64 0, .int .i64 0] := rfl
  simp [Builtin.clear_, run_underlying Tryz.underlying322, hz, hcs, zeros, hst]
theorem kept_sets {g : Nat} : ∀ (vs : List Value) (o : Nat) (w : World), Kept g g w (w.setCells g o vs)
  | [], _, _ => Kept.refl _ _ _
  | v :: r, o, w => (kept_set w o v).trans (kept_sets r (o + 1) _)
theorem Row.cleared {w : World} {g : Nat} {R : List Bl} (h : Row w g R) (i : Nat) (hi : i ≤ R.length) (vs : List Value) : Row (w.setCells g (i * 2) vs) g (R.take i) := by
  refine ⟨fun j hj => ?_, fun o ho => ?_, ?_⟩
  · have hj' : j < i ∧ j < R.length := by simp at hj; omega
    have hc := h.c j hj'.2
    have e1 : (R.take i).getD j (0, 0) = R.getD j (0, 0) := by simp [List.getD_eq_getElem?_getD, hj'.1]
    rw [e1, World.cell?_setCells_out g vs _ _ _ (fun _ _ => Or.inl (by simp only; omega)), World.cell?_setCells_out g vs _ _ _ (fun _ _ => Or.inl (by simp only; omega))]
    exact hc
  · rw [World.frozen?_setCells]; exact h.fz o (by simp at ho; omega)
  · have := (kept_sets (g := g) vs (i * 2) w).size
    have := h.lt; omega

set_option maxHeartbeats 4000000 in
theorem delete_ok (L : List Bl) (g cap cb : Nat) (o : Int) (w : World) (hr : Row w g L) (hl : L.length ≤ 256) (hcap : L.length ≤ cap) (hc : w.cell? ⟨cb, 0, none⟩ = some (.int .i64 o)) (hlt : cb < w.heap.size) (hne : cb ≠ g) :
    Calls Tryz.prog 293 #[.slice (some ⟨g, 0, none⟩) L.length cap, .func (.func 294) #[] #[.pointer (some ⟨cb, 0, none⟩)]] w fun ev w' => Kept g g w w' ∧
      ∃ M, M = L.filter (fun x => decide (o ≤ x.2)) ∧ ev = .returned (.slice (some ⟨g, 0, none⟩) M.length cap) ∧ Row w' g M := by
  have HI := hide (index_ok L g cap cb o w hr hl hc hlt)
  have HR := hide hr
  have hgl := hr.lt
  clear hr
  generalize hn : L.length = n at *
  have HN := hide hn
  go_enter Tryz.func293, Tryz.ntmps293
  go_wp2_with fail
  refine (unhide HI).mono ?_
  rintro ev w1 ⟨hb1, ⟨rfl, ha⟩ | ⟨i0, hi0, rfl, h1, h2⟩⟩
  · have HA := hide ha
    clear ha HI
    have hne1 : ((-1 : Int) == -1) = true := rfl
    go_wp2
    go_ret
    have e : L.filter (fun x => decide (o ≤ x.2)) = L := List.filter_eq_self.2 (fun x hx => by
      obtain ⟨m, hm, rfl⟩ := List.getElem_of_mem hx
      have := (unhide HA) m (by omega)
      rw [getD_lt hm] at this
      simpa using this)
    exact ⟨kept_of hb1, L, e.symm, by rw [hn]; rfl, (unhide HR).b hb1⟩
  · have K0 := hide (KI.start (o := o) (by omega : i0 < L.length) h1 h2)
    have R0 := hide ((unhide HR).b hb1)
    have hz1 := hb1.size
    have B1 := hide hb1
    have hcb1 := (hb1.cell (p := ⟨cb, 0, none⟩) hlt).trans hc
    clear h1 h2 HI hb1 hc
    have hne1 : ((i0 : Int) == -1) = false := beq_eq_false_iff_ne.2 (by omega)
    go_wp2
    go_loopw [5, 6, 7] (fun s5 s6 _ wr => ∃ (i j : Nat) (R : List Bl), s5 = .int .i64 i ∧ s6 = .int .i64 j ∧ i < j ∧ j ≤ n ∧ Hid (KI o L R i j) ∧ Hid (Row wr g R) ∧ Kept g g w1 wr) (fun _ s6 _ _ => n - (RowKit.intOf s6).toNat)
    case atStart => exact ⟨i0, i0 + 1, L, rfl, by go_num, by omega, by omega, K0, R0, Kept.refl _ _ _⟩
    case round =>
      obtain ⟨i, j, R, rfl, rfl, hij, hjn, hK, hRw, hk⟩ := hrel
      have hRl : R.length = n := by rw [(unhide hK).len]; exact hn
      by_cases hjlt : j < n
      · have cc := (unhide hRw).c j (by omega)
        have ci := (unhide hRw).c i (by omega)
        have f1 := (unhide hRw).fz (i * 2) (by omega)
        have f2 := (unhide hRw).fz (i * 2 + 1) (by omega)
        have hcw : wr.cell? ⟨cb, 0, none⟩ = some (.int .i64 o) := (hk.cell (p := ⟨cb, 0, none⟩) (by simp only; omega) hne hne).trans hcb1
        have hz2 := hk.size
        have hgw := (unhide hRw).lt
        rw [(unhide hK).rest j (Nat.le_refl _)] at cc
        obtain ⟨x, hx⟩ : ∃ x, x = L.getD j (0, 0) := ⟨_, rfl⟩
        rw [← hx] at cc
        have HX := hide hx
        clear hx
        obtain ⟨x1, x2⟩ := x
        generalize R.getD i (0, 0) = y at ci
        obtain ⟨c1, c2⟩ := cc
        obtain ⟨i1, i2⟩ := ci
        simp only at c1 c2
        have hcw2 : (wr.alloc (blkO x1 x2)).cell? ⟨cb, 0, none⟩ = some (.int .i64 o) := ((ballo (Below.refl _ _) _).cell (p := ⟨cb, 0, none⟩) (by simp only; omega)).trans hcw
        by_cases hlo : x2 < o
        · have hd : decide (x2 < o) = true := by simpa using hlo
          go_wp2_with fail
          refine (less_ok x1 x2 o cb _ hcw2 (by simp; omega)).mono ?_
          rintro ev w3 ⟨rfl, rfl⟩
          go_wp2_with fail
          go_roundw
          case rel =>
            have b2 := ballo (ballo (Below.refl _ wr) (blkO x1 x2)) (blkO x1 x2)
            exact ⟨i, j + 1, R, rfl, by go_num, by omega, by omega, (unhide hK).skip (by omega) (by rw [← unhide HX]; exact hlo), (unhide hRw).b b2, hk.trans (kept_of b2)⟩
          case measure => simp [RowKit.intOf]; omega
        · have hd : decide (x2 < o) = false := by simpa using hlo
          have s1 := ballo (ballo (Below.refl _ wr) (blkO x1 x2)) (blkO x1 x2)
          have t1 := (s1.cell (p := ⟨g, i * 2, none⟩) hgw).trans i1
          have t2 := (s1.cell (p := ⟨g, i * 2 + 1, none⟩) hgw).trans i2
          have t3 := (s1.frozen (p := ⟨g, i * 2, none⟩) hgw).trans f1
          have t4 := (s1.frozen (p := ⟨g, i * 2 + 1, none⟩) hgw).trans f2
          have hin : i < n := by omega
          go_wp2_with fail
          refine (less_ok x1 x2 o cb _ hcw2 (by simp; omega)).mono ?_
          rintro ev w3 ⟨rfl, rfl⟩
          go_wp2_with fail
          go_roundw
          case rel =>
            have r2 := (unhide hRw).two (i := i) (by omega) x1 x2
            have s2 := ballo (ballo (Below.refl _ ((wr.setCell ⟨g, i * 2, none⟩ (.int .i64 x1)).setCell ⟨g, i * 2 + 1, none⟩ (.int .i64 x2))) (blkO x1 x2)) (blkO x1 x2)
            refine ⟨i + 1, j + 1, R.set i (x1, x2), by go_num, by go_num, by omega, by omega, ?_, r2.b s2, hk.trans (((kept_set _ _ _).trans (kept_set _ _ _)).trans (kept_of s2))⟩
            have := (unhide hK).keep (by omega) (by rw [← unhide HX]; simp only; omega)
            rwa [← unhide HX] at this
          case measure => simp [RowKit.intOf]; omega
      · have hjn2 : j = n := by omega
        subst hjn2
        have hkd := (unhide hK)
        rw [← hn] at hkd
        obtain ⟨d1, d2⟩ := hkd.done
        have HD1 := hide d1
        have HD2 := hide d2
        clear hkd d1 d2
        have hin : i < j := hij
        have hcl := fun ty => clear_run wr g i (j - i) (cap - i) ty R (unhide hRw) (by omega) (by omega)
        go_wp2
        go_ret
        refine ⟨(kept_of (unhide B1)).trans (hk.trans (kept_sets _ _ _)), _, rfl, by rw [← unhide HD2]; rfl, ?_⟩
        rw [← unhide HD1]
        exact (unhide hRw).cleared i (by omega) _
end Bd
end Go.Proofs.YtcbmfakjfoggaaaGreatDoor
namespace Go.Proofs.YtcbmfakjfoggaaaGreatDoor
open Go.RowKit
namespace Bd
open Fr
/-- A block of the call's own. -/
structure Bx (w : World) (b : Nat) (x : Bl) : Prop where
  c0 : w.cell? ⟨b, 0, none⟩ = some (.int .i64 x.1)
  c1 : w.cell? ⟨b, 1, none⟩ = some (.int .i64 x.2)
  f0 : w.frozen? ⟨b, 0, none⟩ = false
  f1 : w.frozen? ⟨b, 1, none⟩ = false
  lt : b < w.heap.size
theorem bx_new (w : World) (x : Bl) : Bx (w.alloc (blkO x.1 x.2)) w.heap.size x := ⟨by simp, by simp, by simp, by simp, by simp⟩
theorem Bx.b {w w' : World} {b : Nat} {x : Bl} (h : Bx w b x) (hb : Below w.heap.size w w') : Bx w' b x :=
  ⟨(hb.cell (p := ⟨b, 0, none⟩) h.lt).trans h.c0, (hb.cell (p := ⟨b, 1, none⟩) h.lt).trans h.c1, (hb.frozen (p := ⟨b, 0, none⟩) h.lt).trans h.f0, (hb.frozen (p := ⟨b, 1, none⟩) h.lt).trans h.f1, Nat.lt_of_lt_of_le h.lt hb.size⟩
theorem Bx.a {w : World} {b : Nat} {x : Bl} (h : Bx w b x) (o : Obj) : Bx (w.alloc o) b x := h.b (ballo (Below.refl _ _) o)
theorem Bx.set {w : World} {b : Nat} {x : Bl} (h : Bx w b x) (y : Bl) : Bx ((w.setCell ⟨b, 0, none⟩ (.int .i64 y.1)).setCell ⟨b, 1, none⟩ (.int .i64 y.2)) b y :=
  ⟨by rw [cso (by simp)]; exact css h.c0, css (u := .int .i64 x.2) (by rw [cso (by simp)]; exact h.c1), by simp only [World.frozen?_setCell]; exact h.f0, by simp only [World.frozen?_setCell]; exact h.f1, by simpa [World.setCell] using h.lt⟩
theorem Bx.off {w : World} {b c : Nat} {x : Bl} (h : Bx w b x) (hne : b ≠ c) (o : Nat) (v : Value) : Bx (w.setCell ⟨c, o, none⟩ v) b x :=
  ⟨by rw [cso (by simp <;> omega)]; exact h.c0, by rw [cso (by simp <;> omega)]; exact h.c1, by simp only [World.frozen?_setCell]; exact h.f0, by simp only [World.frozen?_setCell]; exact h.f1, by simpa [World.setCell] using h.lt⟩

def cmpv (a b : Int) : Int := if a < b then -1 else if b < a then 1 else 0
theorem compare_ok (a b : Int) (w : World) : Calls Tryz.prog 199 #[.int .i64 a, .int .i64 b] w fun ev w' => ev = .returned (.int .i64 (cmpv a b)) ∧ w' = w := by
  have n1 : (a != a) = false := by simp
  have n2 : (b != b) = false := by simp
  unfold cmpv
  by_cases h1 : a < b
  · have d1 : decide (a < b) = true := by simpa using h1
    rw [if_pos h1]
    go_enter Tryz.func199, Tryz.ntmps199
    go_wp2
    go_ret
    exact ⟨rfl, rfl⟩
  · have d1 : decide (a < b) = false := by simpa using h1
    rw [if_neg h1]
    by_cases h2 : b < a
    · have d2 : decide (b < a) = true := by simpa using h2
      rw [if_pos h2]
      go_enter Tryz.func199, Tryz.ntmps199
      go_wp2
      go_ret
      exact ⟨rfl, rfl⟩
    · have d2 : decide (b < a) = false := by simpa using h2
      rw [if_neg h2]
      go_enter Tryz.func199, Tryz.ntmps199
      go_wp2
      go_ret
      exact ⟨rfl, rfl⟩

theorem cmp_ok (x y : Bl) (w : World) : Calls Tryz.prog 296 #[blkV x.1 x.2, blkV y.1 y.2] w fun ev w' => ev = .returned (.int .i64 (cmpv x.2 y.2)) ∧ w' = (w.alloc (blkO x.1 x.2)).alloc (blkO y.1 y.2) := by
  obtain ⟨a, k⟩ := x
  obtain ⟨a', k'⟩ := y
  simp only
  have H := fun w => hide (compare_ok k k' w)
  generalize cmpv k k' = c at *
  go_enter Tryz.func296, Tryz.ntmps296
  go_wp2_with (go_at_call 199; refine (unhide (H _)).mono ?_; rintro ev w1 ⟨rfl, rfl⟩)
  go_ret
  exact ⟨rfl, rfl⟩

/-- Of the first j + 1 blocks the first one of the least order. -/
def pk (L : List Bl) : Nat → Bl
  | 0 => L.getD 0 (0, 0)
  | j + 1 => if (L.getD (j + 1) (0, 0)).2 < (pk L j).2 then L.getD (j + 1) (0, 0) else pk L j

set_option maxHeartbeats 4000000 in
theorem min_ok (L : List Bl) (g cap : Nat) (w : World) (hr : Row w g L) (hl : L.length ≤ 256) (h0 : 0 < L.length) :
    Calls Tryz.prog 295 #[.slice (some ⟨g, 0, none⟩) L.length cap, .func (.func 296) #[] #[]] w fun ev w' => ev = .returned (blkV (pk L (L.length - 1)).1 (pk L (L.length - 1)).2) ∧ Below w.heap.size w w' := by
  have HR := hide hr
  have c0 := (hr.c 0 h0)
  have hgl := hr.lt
  generalize hn : L.length = n at *
  have hx0 : L.getD 0 (0, 0) = pk L 0 := rfl
  rw [hx0] at c0
  obtain ⟨x0, hx⟩ : ∃ x, x = pk L 0 := ⟨_, rfl⟩
  rw [← hx] at c0
  have HX := hide hx
  clear hr hx0 hx
  obtain ⟨a, k⟩ := x0
  obtain ⟨c1, c2⟩ := c0
  simp only [Nat.zero_mul, Nat.zero_add] at c1 c2
  have hn1 : decide ((n : Int) < 1) = false := by simp; omega
  go_enter Tryz.func295, Tryz.ntmps295
  go_wp2
  go_loopw [6] (fun s6 wr => ∃ (j : Nat), s6 = .int .i64 j ∧ 1 ≤ j ∧ j ≤ n ∧ Hid (Bx wr w.heap.size (0, 0)) ∧ Hid (Bx wr (w.heap.size + 1) (pk L (j - 1))) ∧ Below w.heap.size w wr) (fun s6 _ => n - (RowKit.intOf s6).toNat)
  case atStart =>
    refine ⟨1, rfl, by omega, by omega, ?_, ?_, ballo (ballo (Below.refl _ _) _) _⟩
    · exact (bx_new w (0, 0)).a _
    · rw [← unhide HX]; have := bx_new (w.alloc (blkO 0 0)) (a, k); rw [show (w.alloc (blkO 0 0)).heap.size = w.heap.size + 1 by simp] at this; exact this
  case round =>
    obtain ⟨j, rfl, hj1, hj, h4, h5, hb⟩ := hrel
    by_cases hjn : j < n
    · have cc := ((unhide HR).b hb).c j (by omega)
      have hm := unhide h5
      obtain ⟨x, hx⟩ : ∃ x, x = L.getD j (0, 0) := ⟨_, rfl⟩
      rw [← hx] at cc
      obtain ⟨m, hmm⟩ : ∃ m, m = pk L (j - 1) := ⟨_, rfl⟩
      rw [← hmm] at hm h5
      have HP := hide (show pk L j = if x.2 < m.2 then x else m by
        obtain ⟨i, rfl⟩ : ∃ i, j = i + 1 := ⟨j - 1, by omega⟩
        rw [hx, hmm]; rfl)
      clear hx hmm
      have hc0 := hm.c0
      have hc1 := hm.c1
      have hf0 := hm.f0
      have hf1 := hm.f1
      have hml := hm.lt
      have H := fun w => hide (cmp_ok x m w)
      clear hm
      obtain ⟨x1, x2⟩ := x
      obtain ⟨m1, m2⟩ := m
      obtain ⟨c3, c4⟩ := cc
      simp only at c3 c4 hc0 hc1 H HP
      have hlt0 : (0 : Int) ≤ j := by omega
      have hlt1 : (j : Int) < n := by omega
      have hgr : g < wr.heap.size := by have := hb.size; omega
      by_cases hlt : x2 < m2
      · have hcv : cmpv x2 m2 = -1 := by unfold cmpv; rw [if_pos hlt]
        rw [hcv] at H
        rw [if_pos hlt] at HP
        go_wp2
        go_region_held3 (fun w' => w'.cell? ⟨g, j * 2, none⟩ = some (.int .i64 x1) ∧ w'.cell? ⟨g, j * 2 + 1, none⟩ = some (.int .i64 x2) ∧ w'.cell? ⟨w.heap.size + 1, 0, none⟩ = some (.int .i64 m1) ∧ w'.cell? ⟨w.heap.size + 1, 1, none⟩ = some (.int .i64 m2)) (go_keep) ((go_at_call 296; refine (unhide (H _)).mono ?_; rintro ev w' ⟨rfl, rfl⟩))
        have B2 : Below wr.heap.size wr ((wr.alloc (blkO x1 x2)).alloc (blkO m1 m2)).drew := (ballo (ballo (Below.refl _ _) _) _).drew
        generalize ((wr.alloc (blkO x1 x2)).alloc (blkO m1 m2)).drew = W at *
        have e3 := (B2.cell (p := ⟨g, j * 2, none⟩) hgr).trans c3
        have e4 := (B2.cell (p := ⟨g, j * 2 + 1, none⟩) hgr).trans c4
        have X5 := hide ((unhide h5).b B2)
        have q0 := (unhide X5).c0
        have q1 := (unhide X5).c1
        have q2 := (unhide X5).f0
        have q3 := (unhide X5).f1
        clear c3 c4 hc0 hc1 hf0 hf1
        simp only at q0 q1
        go_wp2
        go_roundw
        case rel => exact ⟨j + 1, by go_num, by omega, by omega, (((unhide h4).b B2).off (by omega) _ _).off (by omega) _ _, (by rw [Nat.add_sub_cancel, unhide HP]; exact (unhide X5).set (x1, x2)), ((btr hb B2).setCell (by simp) _).setCell (by simp) _⟩
        case measure => simp [RowKit.intOf]; omega
      · have hcv : decide (cmpv x2 m2 < 0) = false := by unfold cmpv; rw [if_neg hlt]; split <;> simp
        rw [if_neg hlt] at HP
        generalize cmpv x2 m2 = cv at *
        go_wp2
        go_region_held3 (fun w' => w'.cell? ⟨g, j * 2, none⟩ = some (.int .i64 x1) ∧ w'.cell? ⟨g, j * 2 + 1, none⟩ = some (.int .i64 x2) ∧ w'.cell? ⟨w.heap.size + 1, 0, none⟩ = some (.int .i64 m1) ∧ w'.cell? ⟨w.heap.size + 1, 1, none⟩ = some (.int .i64 m2)) (go_keep) ((go_at_call 296; refine (unhide (H _)).mono ?_; rintro ev w' ⟨rfl, rfl⟩))
        have B2 : Below wr.heap.size wr ((wr.alloc (blkO x1 x2)).alloc (blkO m1 m2)).drew := (ballo (ballo (Below.refl _ _) _) _).drew
        generalize ((wr.alloc (blkO x1 x2)).alloc (blkO m1 m2)).drew = W at *
        have e3 := (B2.cell (p := ⟨g, j * 2, none⟩) hgr).trans c3
        have e4 := (B2.cell (p := ⟨g, j * 2 + 1, none⟩) hgr).trans c4
        have X5 := hide ((unhide h5).b B2)
        have q0 := (unhide X5).c0
        have q1 := (unhide X5).c1
        have q2 := (unhide X5).f0
        have q3 := (unhide X5).f1
        clear c3 c4 hc0 hc1 hf0 hf1
        simp only at q0 q1
        go_wp2
        go_roundw
        case rel => exact ⟨j + 1, by go_num, by omega, by omega, (unhide h4).b B2, (by rw [Nat.add_sub_cancel, unhide HP]; exact unhide X5), btr hb B2⟩
        case measure => simp [RowKit.intOf]; omega
    · have hjn2 : j = n := by omega
      subst hjn2
      have X4 := unhide h4
      have X5 := unhide h5
      have q0 := X5.c0
      have q1 := X5.c1
      have p0 := X4.c0
      have p1 := X4.c1
      have g0 := X4.f0
      have g1 := X4.f1
      clear X4 X5 h4 h5
      obtain ⟨m, hm⟩ : ∃ m, m = pk L (j - 1) := ⟨_, rfl⟩
      rw [← hm] at q0 q1
      have HM := hide hm
      clear hm
      obtain ⟨m1, m2⟩ := m
      simp only at q0 q1 p0 p1
      go_wp2
      have r0 := css (v := .int .i64 m1) p0
      exact bodyPost_ret (v := blkV m1 m2) (by simp [results, Tryz.results295, go_sem, p0, p1]) rfl ⟨by rw [← unhide HM], (hb.setCell (by simp) _).setCell (by simp) _⟩
end Bd
end Go.Proofs.YtcbmfakjfoggaaaGreatDoor
