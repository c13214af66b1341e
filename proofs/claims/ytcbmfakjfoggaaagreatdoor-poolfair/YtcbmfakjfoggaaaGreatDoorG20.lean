/- Package slab's has, fullest · Package zone's Take, by contract · Package zone's Take, by contract: where the node and the order are right · The document's answer's NewZone, by contract. -/
import Derived.Test.YtcbmfakjfoggaaaGreatDoorG17
import Derived.Test.YtcbmfakjfoggaaaGreatDoorG19
import Derived.Test.YtcbmfakjfoggaaaGreatDoorG15
import Derived.Deep.Cut
import Derived.Test.YtcbmfakjfoggaaaGreatDoorG13
namespace Go.Proofs.YtcbmfakjfoggaaaGreatDoor
open Go.RowKit
namespace Sb
open Fr Bd Zn Dz
theorem chas_ok (c z : Nat) (mn lw hi : Int) (k : Nat) (nb fm tm : Nat → Nat) (nd : Nat → Nd) (fr : Nat → List Nat) (x : Int) (w : World) (e : Nat → Addr) (he : Errs3 w e) (h : DZ w z mn lw hi k nb fm tm nd fr) (hc : w.cell? ⟨c, 0, none⟩ = some (ptr z)) :
    Calls Tryz.prog 73 #[ptr c, .int .i64 x] w fun ev w' => ev = .returned (.bool (decide (0 ≤ x ∧ x < k))) ∧ Below w.heap.size w w' := by
  by_cases hx : 0 ≤ x ∧ x < k
  · obtain ⟨x', rfl⟩ := Int.eq_ofNat_of_zero_le hx.1
    have H := hide (zfree_ok z mn lw hi k nb fm tm nd fr x' w h (by omega))
    rw [show decide (0 ≤ (x' : Int) ∧ (x' : Int) < k) = true by simp; omega]
    generalize pgs (nd x').F = v at *
    clear h he hx
    unfold ptr at *
    go_enter Tryz.func73, Tryz.ntmps73
    go_wp2_with fail
    refine (unhide H).mono ?_
    rintro ev w' ⟨rfl, hb⟩
    go_wp2_with fail
    go_ret
    exact ⟨rfl, hb⟩
  · have H := hide (zfree_bad z mn lw hi k nb fm tm nd fr x w e he h hx)
    rw [show decide (0 ≤ x ∧ x < k) = false by simpa using hx]
    clear h he hx
    unfold ptr errV at *
    go_enter Tryz.func73, Tryz.ntmps73
    go_wp2_with fail
    refine (unhide H).mono ?_
    rintro ev w' ⟨rfl, hb⟩
    go_wp2_with fail
    go_ret
    exact ⟨rfl, hb⟩
/-- The fullest slab, as a pointer. -/
def bestV (bs : List Nat) : Option Nat → Value
  | none => .pointer none
  | some j => ptr (bs.getD j 0)
theorem DC.mle {N0 : Nat} {w : World} {c z : Nat} {ly : Ly} {sz : Int} {m : Nat} {bs : List Nat} {ss : List Sl} (h : DC N0 w c z ly sz m bs ss) : 1 ≤ m ∧ m ≤ 64 := by
  obtain ⟨h1, h2, h3⟩ := h.mm
  have h4 : (64 : Int) / sz ≤ 64 := Int.ediv_le_self _ (by omega)
  have h5 : (1 : Int) ≤ 64 / sz := Int.le_ediv_of_mul_le (by omega) (by omega)
  omega
theorem pow_le64 {x m : Nat} (h : x < 2 ^ m) (hm : m ≤ 64) : x < 18446744073709551616 := Nat.lt_of_lt_of_le h (Nat.le_trans (Nat.pow_le_pow_right (by omega) hm) (by decide))
set_option maxRecDepth 100000 in
set_option maxHeartbeats 8000000 in
theorem full_ok (N0 : Nat) (c z : Nat) (ly : Ly) (sz : Int) (m : Nat) (bs : List Nat) (ss : List Sl) (x : Nat) (w : World) (h : DC N0 w c z ly sz m bs ss) (hn : ss.length ≤ 10000) :
    Calls Tryz.prog 170 #[ptr c, .int .i64 x] w fun ev w' => ev = .returned (bestV bs (bst m x ss ss.length).1) ∧ w' = w := by
  obtain ⟨p, d, e2, o2⟩ := h.c2
  have hml := h.mle
  have hmm := h.mm.2.2
  have HRM := hide (room_ok c sz w h.c1 h.mm.1 h.mm.2.1)
  rw [← hmm] at HRM
  have HR := hide (fun i (hi : i < ss.length) => h.slab hi)
  have HW := hide (fun (hi : 0 < ss.length) => h.row hi)
  rw [h.len] at e2
  clear h o2 hmm
  unfold ptr at *
  go_enter Tryz.func170, Tryz.ntmps170
  go_wp2_with fail
  go_loopw [15, 5, 6] (fun s s5 s6 wr => ∃ i : Nat, s = .int .i64 i ∧ i ≤ ss.length ∧ wr = w ∧ s5 = bestV bs (bst m x ss i).1 ∧ s6 = .int .i64 (bst m x ss i).2) (fun s _ _ _ => ss.length - (RowKit.intOf s).toNat)
  case atStart => exact ⟨0, rfl, Nat.zero_le _, rfl, rfl, rfl⟩
  case round =>
    obtain ⟨i, rfl, hi, rfl, rfl, rfl⟩ := hrel
    by_cases hil : i < ss.length
    · obtain ⟨b, s, eb, es, hS, hok⟩ := (unhide HR) i hil
      obtain ⟨g, d', eg, _, hg, _, hrow⟩ := (unhide HW) (by omega)
      rw [e2] at eg
      simp only [Option.some.injEq, Value.slice.injEq, true_and] at eg
      obtain ⟨rfl, rfl⟩ := eg
      have rb := hrow i b eb
      have c0 := hS.c0
      have c3 := hS.c3
      have HON := ones_ok s.bm wr (pow_le64 hok.2.2.1 hml.2)
      rw [pop_lt_pow hok.2.2.1 64 hml.2] at HON
      have hnx : bst m x ss (i + 1) = if s.nd = x ∧ pop s.bm m < m ∧ (bst m x ss i).2 < (pop s.bm m : Int) then (some i, (pop s.bm m : Int)) else bst m x ss i := by
        rw [bst, getD_at es]
      have hbv := bst_hi m x ss i
      have hbi : bestV bs (some i) = .pointer (some ⟨b, 0, none⟩) := by simp only [bestV, getD_at eb]; rfl
      have hpl := pop_le s.bm m
      have HX := hide hnx
      have HON := hide HON
      clear hnx hrow hS hok eb es
      generalize s.bm = bm at *
      generalize pop bm m = n1 at *
      generalize hB : bst m x ss i = B1 at *
      obtain ⟨o1, v1⟩ := B1
      simp only at hbv
      generalize hbo : bestV bs o1 = V1 at *
      have hi0 : (0 : Int) ≤ i := by omega
      have hi1 : (i : Int) < ss.length := by omega
      unfold ptr at *
      have HBI := hide hbi
      have HBO := hide hbo
      have HB := hide hB
      clear hB hbo hbi
      by_cases a1 : s.nd = x
      · have d1 : ((s.nd : Int) == (x : Int)) = true := by simp; omega
        by_cases a2 : n1 < m
        · have d2 : decide ((n1 : Int) < (m : Int)) = true := by simp; omega
          by_cases a3 : v1 < (n1 : Int)
          · have d3 : decide ((n1 : Int) > v1) = true := by simp; omega
            have HE : Hid (bst m x ss (i + 1) = (some i, (n1 : Int))) := by rw [unhide HX, if_pos ⟨a1, a2, a3⟩]; exact rfl
            clear a1
            go_wp2_with (first | (go_at_call 218; refine (unhide HON).mono ?_; rintro ev w3 ⟨rfl, rfl⟩) | (go_at_call 219; refine (unhide HRM).mono ?_; rintro ev w3 ⟨rfl, rfl⟩))
            go_roundw
            case rel => exact ⟨i + 1, by go_num, by omega, by first | trivial | rfl, by rw [unhide HE]; exact (unhide HBI).symm, by rw [unhide HE]⟩
            case measure => simp [RowKit.intOf]; omega
          · have d3 : decide ((n1 : Int) > v1) = false := by simp; omega
            have HE : Hid (bst m x ss (i + 1) = (o1, v1)) := by rw [unhide HX, if_neg (fun h => a3 h.2.2)]; exact rfl
            clear a1
            go_wp2_with (first | (go_at_call 218; refine (unhide HON).mono ?_; rintro ev w3 ⟨rfl, rfl⟩) | (go_at_call 219; refine (unhide HRM).mono ?_; rintro ev w3 ⟨rfl, rfl⟩))
            go_roundw
            case rel => exact ⟨i + 1, by go_num, by omega, by first | trivial | rfl, by rw [unhide HE]; exact (unhide HBO).symm, by rw [unhide HE]⟩
            case measure => simp [RowKit.intOf]; omega
        · have d2 : decide ((n1 : Int) < (m : Int)) = false := by simp; omega
          have HE : Hid (bst m x ss (i + 1) = (o1, v1)) := by rw [unhide HX, if_neg (fun h => a2 h.2.1)]; exact rfl
          clear a1
          go_wp2_with (first | (go_at_call 218; refine (unhide HON).mono ?_; rintro ev w3 ⟨rfl, rfl⟩) | (go_at_call 219; refine (unhide HRM).mono ?_; rintro ev w3 ⟨rfl, rfl⟩))
          go_roundw
          case rel => exact ⟨i + 1, by go_num, by omega, by first | trivial | rfl, by rw [unhide HE]; exact (unhide HBO).symm, by rw [unhide HE]⟩
          case measure => simp [RowKit.intOf]; omega
      · have d1 : ((s.nd : Int) == (x : Int)) = false := by simp; omega
        have HE : Hid (bst m x ss (i + 1) = (o1, v1)) := by rw [unhide HX, if_neg (fun h => a1 h.1)]; exact rfl
        clear a1
        go_wp2_with (first | (go_at_call 218; refine (unhide HON).mono ?_; rintro ev w3 ⟨rfl, rfl⟩) | (go_at_call 219; refine (unhide HRM).mono ?_; rintro ev w3 ⟨rfl, rfl⟩))
        go_roundw
        case rel => exact ⟨i + 1, by go_num, by omega, by first | trivial | rfl, by rw [unhide HE]; exact (unhide HBO).symm, by rw [unhide HE]⟩
        case measure => simp [RowKit.intOf]; omega
    · obtain rfl : i = ss.length := by omega
      go_wp2
      go_ret
      exact ⟨rfl, rfl⟩
end Sb
end Go.Proofs.YtcbmfakjfoggaaaGreatDoor
namespace Go.Proofs.YtcbmfakjfoggaaaGreatDoor
open Go.RowKit Go.Maps
namespace Dz
open Fr Bd Zn
/-- The boxes of Take's call: the zone's pointer, the order, the urgency, the result. -/
structure TB (w : World) (s z : Nat) (o : Int) (u : Bool) : Prop where
  cz : w.cell? ⟨s, 0, none⟩ = some (ptr z)
  co : w.cell? ⟨s + 1, 0, none⟩ = some (.int .i64 o)
  cu : w.cell? ⟨s + 2, 0, none⟩ = some (.bool u)
  pb : PB w (s + 3)
  lt : s + 3 < w.heap.size
theorem TB.b {w w' : World} {s z : Nat} {o : Int} {u : Bool} (h : TB w s z o u) (hb : Below w.heap.size w w') : TB w' s z o u := by
  have := h.lt
  exact ⟨(hb.cell (p := ⟨s, 0, none⟩) (by simp only; omega)).trans h.cz, (hb.cell (p := ⟨s + 1, 0, none⟩) (by simp only; omega)).trans h.co, (hb.cell (p := ⟨s + 2, 0, none⟩) (by simp only; omega)).trans h.cu, h.pb.b hb, Nat.lt_of_lt_of_le h.lt hb.size⟩
abbrev tbW (w : World) (z : Nat) (o : Int) (u : Bool) : World := (((w.alloc (.cells #[.pointer (some ⟨z, 0, none⟩)] 124)).alloc (.cells #[.int .i64 o] 3)).alloc (.cells #[.bool u] 4)).alloc (.cells #[.int .i64 0, .int .i64 0, .int .i64 0] 293)
theorem tb_new (w : World) (z : Nat) (o : Int) (u : Bool) : TB (tbW w z o u) w.heap.size z o u ∧ Below w.heap.size w (tbW w z o u) := by
  unfold tbW
  have s1 : (w.alloc (.cells #[.pointer (some ⟨z, 0, none⟩)] 124)).heap.size = w.heap.size + 1 := by simp
  have q0 := World.cell?_alloc_new w #[.pointer (some ⟨z, 0, none⟩)] 124 0
  have q1 := World.cell?_alloc_new (w.alloc (.cells #[.pointer (some ⟨z, 0, none⟩)] 124)) #[.int .i64 o] 3 0
  have s2 : ((w.alloc (.cells #[.pointer (some ⟨z, 0, none⟩)] 124)).alloc (.cells #[.int .i64 o] 3)).heap.size = w.heap.size + 2 := by simp
  have q2 := World.cell?_alloc_new ((w.alloc (.cells #[.pointer (some ⟨z, 0, none⟩)] 124)).alloc (.cells #[.int .i64 o] 3)) #[.bool u] 4 0
  have q3 := pb_new (((w.alloc (.cells #[.pointer (some ⟨z, 0, none⟩)] 124)).alloc (.cells #[.int .i64 o] 3)).alloc (.cells #[.bool u] 4))
  have s3 : (((w.alloc (.cells #[.pointer (some ⟨z, 0, none⟩)] 124)).alloc (.cells #[.int .i64 o] 3)).alloc (.cells #[.bool u] 4)).heap.size = w.heap.size + 3 := by simp
  have s4 : ((((w.alloc (.cells #[.pointer (some ⟨z, 0, none⟩)] 124)).alloc (.cells #[.int .i64 o] 3)).alloc (.cells #[.bool u] 4)).alloc (.cells #[.int .i64 0, .int .i64 0, .int .i64 0] 293)).heap.size = w.heap.size + 4 := by simp
  rw [s1] at q1
  rw [s2] at q2
  rw [s3] at q3
  exact ⟨⟨((ballo (ballo (ballo (Below.refl _ _) _) _) _).cell (p := ⟨w.heap.size, 0, none⟩) (by rw [s1]; simp)).trans q0, ((ballo (ballo (Below.refl _ _) _) _).cell (p := ⟨w.heap.size + 1, 0, none⟩) (by rw [s2]; simp)).trans q1, ((ballo (Below.refl _ _) _).cell (p := ⟨w.heap.size + 2, 0, none⟩) (by rw [s3]; simp)).trans q2, q3, by rw [s4]; omega⟩, ballo (ballo (ballo (ballo (Below.refl _ _) _) _) _) _⟩
/-- The zero place and an error are handed back. -/
theorem below_set3 {w w' : World} {c : Nat} (h : Below w.heap.size w w') (hc : w.heap.size ≤ c) (a b o : Value) : Below w.heap.size w (((w'.setCell ⟨c, 0, none⟩ a).setCell ⟨c, 1, none⟩ b).setCell ⟨c, 2, none⟩ o) := ((h.setCell hc a).setCell hc b).setCell hc o
theorem pb_three {W : World} {b : Nat} (P : PB W b) (x a o : Int) :
    ((((W.setCell ⟨b, 0, none⟩ (.int .i64 x)).setCell ⟨b, 1, none⟩ (.int .i64 a)).setCell ⟨b, 2, none⟩ (.int .i64 o)).cell? ⟨b, 0, none⟩ = some (.int .i64 x)) ∧
    ((((W.setCell ⟨b, 0, none⟩ (.int .i64 x)).setCell ⟨b, 1, none⟩ (.int .i64 a)).setCell ⟨b, 2, none⟩ (.int .i64 o)).cell? ⟨b, 1, none⟩ = some (.int .i64 a)) ∧
    ((((W.setCell ⟨b, 0, none⟩ (.int .i64 x)).setCell ⟨b, 1, none⟩ (.int .i64 a)).setCell ⟨b, 2, none⟩ (.int .i64 o)).cell? ⟨b, 2, none⟩ = some (.int .i64 o)) :=
  ⟨by rw [cso (by simp), cso (by simp)]; exact css P.c0, by rw [cso (by simp)]; exact css (by rw [cso (by simp)]; exact P.c1), css (by rw [cso (by simp), cso (by simp)]; exact P.c2)⟩
theorem set3_far {W : World} {b : Nat} {g : Addr} {v : Value} (h : W.cell? g = some v) (hg : g.block ≠ b) (x a o : Value) : (((W.setCell ⟨b, 0, none⟩ x).setCell ⟨b, 1, none⟩ a).setCell ⟨b, 2, none⟩ o).cell? g = some v := by
  rw [cso (fun e => hg (by rw [← e])), cso (fun e => hg (by rw [← e])), cso (fun e => hg (by rw [← e]))]; exact h
end Dz
end Go.Proofs.YtcbmfakjfoggaaaGreatDoor
namespace Go.Proofs.YtcbmfakjfoggaaaGreatDoor
open Go.RowKit Go.Maps
namespace Dz
open Fr Bd Zn
theorem any_list (L : List Nat) (k : Nat) (hk : L.length = k) (p : Nat → Bool) : ((List.range k).any fun j => p (L.getD j 0)) = L.any p := by
  rw [Bool.eq_iff_iff]
  simp only [List.any_eq_true, List.mem_range]
  constructor
  · rintro ⟨i, hi, h⟩
    rw [List.getD_eq_getElem?_getD, List.getElem?_eq_getElem (by omega), Option.getD_some] at h
    exact ⟨_, List.getElem_mem (by omega), h⟩
  · rintro ⟨y, hy, h⟩
    obtain ⟨i, hi, rfl⟩ := List.getElem_of_mem hy
    exact ⟨i, by omega, by rw [List.getD_eq_getElem?_getD, List.getElem?_eq_getElem hi, Option.getD_some]; exact h⟩
theorem fst_find {L : List Nat} {k : Nat} {r : Int} {p q : Nat → Bool} (hk : L.length = k) (hpq : ∀ i ∈ L, p i = q i) (h : Fst (fun j => p (L.getD j 0)) k r) :
    (r = -1 ∧ L.find? q = none) ∨ ∃ j : Nat, j < k ∧ r = j ∧ L.find? q = some (L.getD j 0) ∧ q (L.getD j 0) = true := by
  have hg : ∀ j (hj : j < L.length), L.getD j 0 = L[j] := fun j hj => by rw [List.getD_eq_getElem?_getD, List.getElem?_eq_getElem hj, Option.getD_some]
  rcases h with ⟨h1, h2⟩ | ⟨i, hi, h1, h2, h3⟩
  · refine Or.inl ⟨h1, ?_⟩
    rw [List.find?_eq_none]
    intro y hy
    obtain ⟨j, hj, rfl⟩ := List.getElem_of_mem hy
    have := h2 j (by omega)
    simp only [hg j hj] at this
    rw [← hpq _ (List.getElem_mem hj), this]; simp
  · have hi' : i < L.length := by omega
    have h4 : q L[i] = true := by
      have := h2
      simp only [hg i hi'] at this
      rw [← hpq _ (List.getElem_mem hi')]; exact this
    refine Or.inr ⟨i, hi, h1, ?_, by rw [hg i hi']; exact h4⟩
    rw [hg i hi']
    refine find_at hi' (fun j' hj' hlt => ?_) h4
    have := h3 j' hlt
    simp only [hg j' hj'] at this
    rw [← hpq _ (List.getElem_mem hj')]; exact this
/-- What Take answers, where the node and the order are right. -/
def TkR (z : Nat) (mn lw hi : Int) (k : Nat) (nb fm tm : Nat → Nat) (nd : Nat → Nd) (fr : Nat → List Nat) (x : Nat) (o : Int) (u : Bool) (e : Nat → Addr) (w : World) (ev : Ending) (w' : World) : Prop :=
  ((fr x).find? (fun i => tkC o mn u (nd i) == 2) = none ∧ ev = .returned (.tuple #[plV 0 0 0, errV (e (if (fr x).any (fun i => tkC o mn u (nd i) == 1) then 6 else 4))]) ∧ Below w.heap.size w w') ∨
      ∃ i, (fr x).find? (fun i => tkC o mn u (nd i) == 2) = some i ∧ i < k ∧ ev = .returned (.tuple #[plV i (tkA o (nd i)) o, .nilIface]) ∧ DZ w' z mn lw hi k nb fm tm (up nd i (tkN o (nd i))) fr ∧ Kept (fm i) (tm i) w w'
end Dz
end Go.Proofs.YtcbmfakjfoggaaaGreatDoor
namespace Go.Proofs.YtcbmfakjfoggaaaGreatDoor
open Go.RowKit
namespace Zn
open Fr Bd
def nd0 (P : Nat → Int) (i : Nat) : Nd := ⟨P i, cv 0 (P i), []⟩
theorem nd0_ok {P : Nat → Int} {i : Nat} (h1 : 1 ≤ P i) (h2 : P i ≤ 256) : (nd0 P i).ok := ⟨h1, h2, cv_inv _ (by show (0 : Int) ≤ P i; omega)⟩
theorem info116 : (Tryz.prog.info? 253).map (fun i => (i.zero, i.size, i.bytes)) = some (some (.pointer none), 1, 8) := by kernel_rfl
/-- The box of a zone that is being made. -/
structure ZB (w : World) (z : Nat) (mn lw hi : Int) (v5 v6 : Value) : Prop where
  c2 : w.cell? ⟨z, 2, none⟩ = some (.int .i64 mn)
  c3 : w.cell? ⟨z, 3, none⟩ = some (.int .i64 lw)
  c4 : w.cell? ⟨z, 4, none⟩ = some (.int .i64 hi)
  c5 : w.cell? ⟨z, 5, none⟩ = some v5
  c6 : w.cell? ⟨z, 6, none⟩ = some v6
  ff : ∀ o, w.frozen? ⟨z, o, none⟩ = false
  tg : Tag w z 252
theorem ZB.b {w w' : World} {z : Nat} {mn lw hi : Int} {v5 v6 : Value} (h : ZB w z mn lw hi v5 v6) (hb : Below w.heap.size w w') : ZB w' z mn lw hi v5 v6 :=
  have hl := h.tg.lt
  ⟨(hb.cell (p := ⟨z, 2, none⟩) hl).trans h.c2, (hb.cell (p := ⟨z, 3, none⟩) hl).trans h.c3, (hb.cell (p := ⟨z, 4, none⟩) hl).trans h.c4, (hb.cell (p := ⟨z, 5, none⟩) hl).trans h.c5, (hb.cell (p := ⟨z, 6, none⟩) hl).trans h.c6, fun o => (hb.frozen (p := ⟨z, o, none⟩) hl).trans (h.ff o), h.tg.b hb⟩
theorem ZB.bn {w w' : World} {z N : Nat} {mn lw hi : Int} {v5 v6 : Value} (h : ZB w z mn lw hi v5 v6) (hb : Below N w w') (hN : z < N) : ZB w' z mn lw hi v5 v6 :=
  ⟨(hb.cell (p := ⟨z, 2, none⟩) hN).trans h.c2, (hb.cell (p := ⟨z, 3, none⟩) hN).trans h.c3, (hb.cell (p := ⟨z, 4, none⟩) hN).trans h.c4, (hb.cell (p := ⟨z, 5, none⟩) hN).trans h.c5, (hb.cell (p := ⟨z, 6, none⟩) hN).trans h.c6, fun o => (hb.frozen (p := ⟨z, o, none⟩) hN).trans (h.ff o), h.tg.blk (hb.block z hN)⟩
theorem ZB.p5 {w : World} {z : Nat} {mn lw hi : Int} {v5 v6 : Value} (h : ZB w z mn lw hi v5 v6) (v : Value) : ZB (w.setCell ⟨z, 5, none⟩ v) z mn lw hi v v6 :=
  ⟨(cso (by simp)).trans h.c2, (cso (by simp)).trans h.c3, (cso (by simp)).trans h.c4, css h.c5, (cso (by simp)).trans h.c6, fun o => by simp only [World.frozen?_setCell]; exact h.ff o, h.tg.set _ _⟩
theorem ZB.p6 {w : World} {z : Nat} {mn lw hi : Int} {v5 v6 : Value} (h : ZB w z mn lw hi v5 v6) (v : Value) : ZB (w.setCell ⟨z, 6, none⟩ v) z mn lw hi v5 v :=
  ⟨(cso (by simp)).trans h.c2, (cso (by simp)).trans h.c3, (cso (by simp)).trans h.c4, (cso (by simp)).trans h.c5, css h.c6, fun o => by simp only [World.frozen?_setCell]; exact h.ff o, h.tg.set _ _⟩
theorem zb_new (w : World) (a b : Value) (mn lw hi : Int) (z : Nat) (hz : w.heap.size = z) : ZB (w.alloc (.cells #[a, b, .int .i64 mn, .int .i64 lw, .int .i64 hi, .slice none 0 0, .slice none 0 0] 252)) z mn lw hi (.slice none 0 0) (.slice none 0 0) := by
  subst hz
  exact ⟨by simp, by simp, by simp, by simp, by simp, fun o => by simp, tag_new _ _ _⟩
theorem own_some {w : World} {b e size n : Nat} {v : Value} {xs : List Value} (h : w.ownsRow b e size v n xs) (hn : 0 < n) : ∃ g cap, v = .slice (some ⟨g, 0, none⟩) n cap := by
  rcases h.2 with ⟨_, h0⟩ | ⟨g, cap, cur, hv, _⟩
  · omega
  · exact ⟨g, cap, hv⟩
theorem ptrs_snoc (i : Nat) (nb : Nat → Nat) (b : Nat) : ptrs (i + 1) (up nb i b) = ptrs i nb ++ [ptr b] := by
  unfold ptrs
  rw [List.range_succ, List.map_append]
  congr 1
  · apply List.map_congr_left
    intro j hj
    rw [up_ne _ _ (by have := List.mem_range.1 hj; omega)]
  · simp [up]
/-- What an append to an own row turns: nothing old, or the row's own block. -/
theorem grown_own {w w' : World} {b e size n : Nat} {v : Value} {xs : List Value} (U : w.ownsRow b e size v n xs) (q : w.grownBy w' v.ownBlock) : Below w.heap.size w w' ∨ ∃ g, Tag w g e ∧ b ≤ g ∧ Kept g g w w' := by
  rcases U.2 with ⟨rfl, _⟩ | ⟨g, cap, cur, rfl, hb, hg, _⟩
  · exact Or.inl ⟨q.os, q.tape, q.output, q.size, fun k hk => q.block k hk (by simp [Value.ownBlock])⟩
  · exact Or.inr ⟨g, ⟨cur, _, hg⟩, hb, ⟨q.os, q.tape, q.output, q.size, fun k hk h1 _ => q.block k hk (by simp [Value.ownBlock]; exact h1)⟩⟩
theorem rb_grown {w w' : World} {b e size n : Nat} {v : Value} {xs : List Value} (U : w.ownsRow b e size v n xs) (q : w.grownBy w' v.ownBlock) (he : e ≠ 291) (he2 : e ≠ 333) {c : Nat} {N : Int} {F T : List Bl} (h : RB w c N F T) : RB w' c N F T := by
  rcases grown_own U q with hb | ⟨g, ht, _, hk⟩
  · exact h.b hb
  · exact h.keep hk (h.tg.ne ht he2.symm) ht he
end Zn
end Go.Proofs.YtcbmfakjfoggaaaGreatDoor
