/- The document's answer's zone's Take, by contract · What package zone's Take asks of a node: its closures by contract; takeOn · What package zone's Take asks of a node, together; takeOn, by contract. -/
import Derived.Test.YtcbmfakjfoggaaaGreatDoorG13
import Derived.Test.YtcbmfakjfoggaaaGreatDoorG14
import Derived.Test.YtcbmfakjfoggaaaGreatDoorG06
import Derived.Deep.RegionLaw
namespace Go.Proofs.YtcbmfakjfoggaaaGreatDoor
open Go.RowKit
namespace Zn
open Fr Bd
/-- What a node answers to Take: 0: nothing is so great; 1: Min would not be left; 2: it is had. -/
def tkC (o mn : Int) (u : Bool) (d : Nd) : Nat := match fit o d.F with
  | none => 0
  | some x => if u = false ∧ pgs (takeF o x d.F) < mn then 1 else 2
def tkA (o : Int) (d : Nd) : Int := match fit o d.F with
  | none => 0
  | some x => x.1
def tkN (o : Int) (d : Nd) : Nd := match fit o d.F with
  | none => d
  | some x => ⟨d.N, takeF o x d.F, ins (x.1, o) d.T⟩
theorem tkN_ok {o : Int} {d : Nd} (h0 : 0 ≤ o) (h : d.ok) : (tkN o d).ok := by
  unfold tkN
  split
  · exact h
  · rename_i x hx
    exact ⟨h.1, h.2.1, take_inv h0 h.2.2 (fit_some hx).1 (fit_some hx).2⟩
/-- One node has other buddies. -/
theorem RZ.swap {w : World} {z : Nat} {mn lw hi : Int} {k : Nat} {nb : Nat → Nat} {nd : Nat → Nd} {fr : Nat → List Nat} (h : RZ w z mn lw hi k nb nd fr) {x : Nat} (hx : x < k) {c : Nat} (hc : ∀ i, i < k → nb i ≠ c) {d : Nd} (hd : RB w c d.N d.F d.T) (hok : d.ok) {g cp : Nat} (hg : w.cell? ⟨z, 5, none⟩ = some (.slice (some ⟨g, 0, none⟩) k cp)) : RZ (w.setCell ⟨g, x, none⟩ (ptr c)) z mn lw hi k (up nb x c) (up nd x d) fr := by
  have hl := h.tg.lt
  obtain ⟨g', cp', e1, o1⟩ := h.cn
  rw [hg] at e1
  simp only [Option.some.injEq, Value.slice.injEq, Addr.mk.injEq, and_true] at e1
  obtain ⟨rfl, _, rfl⟩ := e1
  have ht : Tag w g 253 := by
    rcases o1.2 with ⟨h', _⟩ | ⟨g', cap', cur, h', _, hg', _⟩
    · cases h'
    · simp only [Value.slice.injEq, Option.some.injEq, Addr.mk.injEq] at h'
      obtain ⟨⟨rfl, _⟩, _⟩ := h'
      exact ⟨cur, _, hg'⟩
  have hk := kept_set (g := g) w x (ptr c)
  have hz := h.tg.ne ht (by decide)
  obtain ⟨g2, c2, rows, e2, o2, r2⟩ := h.cf
  refine ⟨(hk.cell (p := ⟨z, 2, none⟩) hl hz hz).trans h.m2, (hk.cell (p := ⟨z, 3, none⟩) hl hz hz).trans h.m3, (hk.cell (p := ⟨z, 4, none⟩) hl hz hz).trans h.m4, ⟨g, cp, (hk.cell (p := ⟨z, 5, none⟩) hl hz hz).trans hg, ?_⟩, ⟨g2, c2, rows, (hk.cell (p := ⟨z, 6, none⟩) hl hz hz).trans e2, own_keep o2 hk ht (by decide), fun i hi => ?_⟩, h.tg.keep hk hz, fun i hi => ?_, fun i hi => ?_, fun i j hi hj hij => ?_⟩
  · have := (o1.stored x (ptr c)).1
    rw [ptrs_set] at this
    exact this
  · obtain ⟨h', d, e3, o3⟩ := r2 i hi
    exact ⟨h', d, e3, own_keep o3 hk ht (by decide)⟩
  · by_cases hix : i = x
    · subst hix; rw [up_at, up_at]; exact hd.keep hk (hd.tg.ne ht (by decide)) ht (by decide)
    · rw [up_ne _ _ hix, up_ne _ _ hix]; exact (h.rb i hi).keep hk ((h.rb i hi).tg.ne ht (by decide)) ht (by decide)
  · by_cases hix : i = x
    · subst hix; rw [up_at]; exact hok
    · rw [up_ne _ _ hix]; exact h.ok i hi
  · by_cases hix : i = x
    · subst hix
      rw [up_at, up_ne _ _ (Ne.symm hij)]
      exact (hc j hj).symm
    · by_cases hjx : j = x
      · subst hjx
        rw [up_at, up_ne _ _ hij]
        exact hc i hi
      · rw [up_ne _ _ hix, up_ne _ _ hjx]; exact h.ne i j hi hj hij
theorem RZ.from {w : World} {z : Nat} {mn lw hi : Int} {k : Nat} {nb : Nat → Nat} {nd : Nat → Nd} {fr : Nat → List Nat} (h : RZ w z mn lw hi k nb nd fr) {x : Nat} (hx : x < k) {j : Nat} (hj : j < (fr x).length) : ∃ g c h' d, w.cell? ⟨z, 6, none⟩ = some (.slice (some ⟨g, 0, none⟩) k c) ∧ g < w.heap.size ∧ w.cell? ⟨g, x, none⟩ = some (.slice (some ⟨h', 0, none⟩) (fr x).length d) ∧ h' < w.heap.size ∧ w.cell? ⟨h', j, none⟩ = some (.int .i64 ((fr x)[j] : Nat)) := by
  obtain ⟨g, c, rows, e1, o1, r1⟩ := h.cf
  obtain ⟨h', d, e2, o2⟩ := r1 x hx
  refine ⟨g, c, h', d, e1, (o1.lt g rfl).2, (o1.cellAt x (by omega)).trans e2, (o2.lt h' rfl).2, (o2.cellAt j (by omega)).trans ?_⟩
  simp [ivs, hj]

/-- The box of a place that is answered. -/
structure PB (w : World) (b : Nat) : Prop where
  c0 : w.cell? ⟨b, 0, none⟩ = some (.int .i64 0)
  c1 : w.cell? ⟨b, 1, none⟩ = some (.int .i64 0)
  c2 : w.cell? ⟨b, 2, none⟩ = some (.int .i64 0)
  f : ∀ o, w.frozen? ⟨b, o, none⟩ = false
  lt : b < w.heap.size
  tg : Tag w b 293
theorem pb_new (w : World) : PB (w.alloc (plO 0 0 0)) w.heap.size := ⟨World.cell?_alloc_new w _ 293 0, World.cell?_alloc_new w _ 293 1, World.cell?_alloc_new w _ 293 2, fun o => by simp [plO], by simp, tag_new _ _ _⟩
theorem PB.b {w w' : World} {b : Nat} (h : PB w b) (hb : Below w.heap.size w w') : PB w' b :=
  ⟨(hb.cell (p := ⟨b, 0, none⟩) h.lt).trans h.c0, (hb.cell (p := ⟨b, 1, none⟩) h.lt).trans h.c1, (hb.cell (p := ⟨b, 2, none⟩) h.lt).trans h.c2, fun o => (hb.frozen (p := ⟨b, o, none⟩) h.lt).trans (h.f o), Nat.lt_of_lt_of_le h.lt hb.size, h.tg.b hb⟩
theorem PB.k {w w' : World} {b A : Nat} (h : PB w b) (hk : Kept A A w w') (hne : b ≠ A) : PB w' b :=
  ⟨(hk.cell (p := ⟨b, 0, none⟩) h.lt hne hne).trans h.c0, (hk.cell (p := ⟨b, 1, none⟩) h.lt hne hne).trans h.c1, (hk.cell (p := ⟨b, 2, none⟩) h.lt hne hne).trans h.c2, fun o => (World.frozen?_of_block (w := w) (a := ⟨b, o, none⟩) (hk.block b h.lt hne hne)).trans (h.f o), Nat.lt_of_lt_of_le h.lt hk.size, h.tg.keep hk hne⟩
theorem find_at {α : Type} {p : α → Bool} : ∀ {L : List α} {j : Nat} (hj : j < L.length), (∀ j' (hj' : j' < L.length), j' < j → p L[j'] = false) → p L[j] = true → L.find? p = some L[j]
  | [], _, hj, _, _ => by simp at hj
  | x :: l, 0, _, _, h => by simp at h; simp [h]
  | x :: l, j + 1, hj, h1, h2 => by
    have hx := h1 0 (by simp) (by omega)
    simp only [List.getElem_cons_zero] at hx
    rw [List.find?_cons, hx]
    simp only [List.getElem_cons_succ] at h2 ⊢
    exact find_at (by simpa using hj) (fun j' hj' hlt => by have := h1 (j' + 1) (by simpa using hj') (by omega); simpa using this) h2
end Zn
end Go.Proofs.YtcbmfakjfoggaaaGreatDoor
namespace Go.Proofs.YtcbmfakjfoggaaaGreatDoor
open Go.RowKit Go.Maps
namespace Fr
theorem size_ok (k : Int) (w : World) (h0 : 0 ≤ k) (h1 : k ≤ 6) : Calls Tryz.prog 220 #[.int .i64 k] w fun ev w' => ev = .returned (.tuple #[.int .i64 (pw k), .nilIface]) ∧ w' = w := by
  rcases orders k h0 h1 with rfl | rfl | rfl | rfl | rfl | rfl | rfl
  all_goals
    clear h0 h1
    go_enter Tryz.func220, Tryz.ntmps220
    go_wp2
    go_ret2
    exact ⟨rfl, rfl⟩
theorem size_err (k : Int) (w : World) (e : Nat → Addr) (he : Errs3 w e) (h : k < 0 ∨ 6 < k) : Calls Tryz.prog 220 #[.int .i64 k] w fun ev w' => ev = .returned (.tuple #[.int .i64 0, errV (e 1)]) ∧ Below w.heap.size w w' := by
  have hB := he.bound
  clear he
  by_cases c : k < 0
  · have c1 : decide (0 ≤ k) = false := by simp; omega
    clear h
    go_enter Tryz.func220, Tryz.ntmps220
    go_wp2
    go_region
    go_wp2
    go_ret2
    exact ⟨rfl, (Below.refl _ _).drew⟩
  · have c1 : 0 ≤ k := by omega
    have c2 : decide (k ≤ 6) = false := by simp; omega
    clear h c
    go_enter Tryz.func220, Tryz.ntmps220
    go_wp2
    go_region
    go_wp2
    go_ret2
    exact ⟨rfl, (Below.refl _ _).drew⟩
end Fr
namespace Bd
open Fr
theorem pgs_ins {x : Bl} : ∀ {l : List Bl}, (∀ y ∈ l, y.1 ≠ x.1) → pgs (ins x l) = pw x.2 + pgs l
  | [], _ => by simp [ins, pgs]
  | y :: l, h => by
    have h1 := h y (List.mem_cons_self ..)
    unfold ins
    split
    · simp [pgs]
    · rw [if_neg (Ne.symm h1)]
      have := pgs_ins (x := x) (l := l) (fun z hz => h z (List.mem_cons_of_mem _ hz))
      simp only [pgs]; omega
theorem pgs_halve {N : Int} {T : List Bl} {a k : Int} (k0 : 0 ≤ k) : ∀ (n : Nat) (j : Int) (G : List Bl), n = (j - k).toNat → k ≤ j → HInv N G T (a, j) → pgs (halveF n a j G) + pw k = pgs G + pw j
  | 0, j, G, hn, hj, _ => by
    have : j = k := by omega
    subst this; rfl
  | n + 1, j, G, hn, hj, h => by
    unfold halveF
    have h1 := h.halve (by omega : 1 ≤ j)
    have h2 := pgs_halve k0 n (j - 1) _ (by omega) (by omega) h1
    have h3 := pgs_ins (x := (a + pw (j - 1), j - 1)) (l := G) (fun y hy e => by
      have h4 := h.offF hy
      have h5 := pw_succ (j - 1) (by omega)
      rw [show j - 1 + 1 = j by omega] at h5
      have := pw_pos (j - 1)
      simp only at h4 e
      omega)
    have h5 := pw_succ (j - 1) (by omega)
    rw [show j - 1 + 1 = j by omega] at h5
    simp only at h3
    omega
theorem pgs_takeF {N : Int} {F T : List Bl} {k : Int} {x : Bl} (k0 : 0 ≤ k) (h : Inv N F T) (hx : x ∈ F) (hk : k ≤ x.2) : pgs (takeF k x F) + pw k = pgs F := by
  have h1 := pgs_halve k0 _ x.2 (del x.1 F) rfl hk (h.outF hx)
  have h2 := pgs_del h.sF hx
  show pgs (halveF _ _ _ _) + _ = _
  omega
end Bd
namespace Dz
open Fr Bd Zn
/-- Has a node a block as great? -/
def fitB (o : Int) (d : Nd) : Bool := d.F.any fun y => decide (o ≤ y.2)
/-- Are so many free that Min are left? -/
def sprB (o mn : Int) (d : Nd) : Bool := decide (mn ≤ pgs d.F - pw o)
def okB (o mn : Int) (u : Bool) (d : Nd) : Bool := fitB o d && (u || sprB o mn d)
theorem fitB_iff {o : Int} {d : Nd} : fitB o d = true ↔ fit o d.F ≠ none := by
  unfold fitB
  rw [Ne, fit_none]
  simp only [List.any_eq_true, decide_eq_true_eq]
  constructor
  · rintro ⟨x, hx, h⟩ hh
    have := hh x hx; omega
  · intro h
    refine Classical.byContradiction fun hh => h fun x hx => ?_
    exact Int.not_le.1 fun h' => hh ⟨x, hx, h'⟩
theorem okB_tk {o mn : Int} {u : Bool} {d : Nd} (h0 : 0 ≤ o) (h : d.ok) : okB o mn u d = (tkC o mn u d == 2) ∧ (tkC o mn u d ≠ 2 → fitB o d = (tkC o mn u d == 1)) := by
  cases hf : fit o d.F with
  | none =>
    have h1 : fitB o d = false := by
      cases hb : fitB o d
      · rfl
      · exact absurd hf (fitB_iff.1 hb)
    have h2 : tkC o mn u d = 0 := by simp [tkC, hf]
    rw [h2]
    exact ⟨by simp [okB, h1], fun _ => by rw [h1]; rfl⟩
  | some x =>
    have h1 : fitB o d = true := fitB_iff.2 (by rw [hf]; simp)
    have h3 := pgs_takeF h0 h.2.2 (fit_some hf).1 (fit_some hf).2
    have h2 : tkC o mn u d = if u = false ∧ pgs (takeF o x d.F) < mn then 1 else 2 := by simp [tkC, hf]
    rw [h2]
    by_cases hc : u = false ∧ pgs (takeF o x d.F) < mn
    · rw [if_pos hc]
      have h4 : sprB o mn d = false := by unfold sprB; simp; omega
      exact ⟨by simp [okB, h1, h4, hc.1], fun _ => by rw [h1]; rfl⟩
    · rw [if_neg hc]
      refine ⟨?_, fun hh => absurd rfl hh⟩
      cases u with
      | true => simp [okB, h1]
      | false =>
        have h4 : sprB o mn d = true := by unfold sprB; simp; simp at hc; omega
        simp [okB, h1, h4]
theorem wide1_ok (ob : Nat) (a k o : Int) (w : World) (hc : w.cell? ⟨ob, 0, none⟩ = some (.int .i64 o)) (hl : ob < w.heap.size) :
    Calls Tryz.prog 222 (#[blkV a k] ++ #[.pointer (some ⟨ob, 0, none⟩)]) w fun ev w' => ev = .returned (.bool (decide (o ≤ k))) ∧ Below w.heap.size w w' := by
  have hc2 : (w.alloc (blkO a k)).cell? ⟨ob, 0, none⟩ = some (.int .i64 o) := ((ballo (Below.refl _ _) _).cell (p := ⟨ob, 0, none⟩) hl).trans hc
  clear hc
  simp only [List.append_toArray, List.cons_append, List.nil_append]
  go_enter Tryz.func222, Tryz.ntmps222
  go_wp2
  go_ret
  exact ⟨rfl, ballo (Below.refl _ _) _⟩
theorem eg59 : ∀ args w, (callFunc 222 args).run Tryz.prog w = .ok (.enter 222 args) w := enters_of Tryz.func222 (by kernel_rfl) rfl
theorem eg60 : ∀ args w, (callFunc 223 args).run Tryz.prog w = .ok (.enter 223 args) w := enters_of Tryz.func223 (by kernel_rfl) rfl
theorem eg65 : ∀ args w, (callFunc 228 args).run Tryz.prog w = .ok (.enter 228 args) w := enters_of Tryz.func228 (by kernel_rfl) rfl
theorem any_range (L : List Bl) (o : Int) : (List.range L.length).any (fun i => decide (o ≤ (L.getD i (0, 0)).2)) = L.any fun y => decide (o ≤ y.2) := by
  rw [Bool.eq_iff_iff]
  simp only [List.any_eq_true, List.mem_range, decide_eq_true_eq]
  constructor
  · rintro ⟨i, hi, h⟩
    rw [getD_lt hi] at h
    exact ⟨_, List.getElem_mem hi, h⟩
  · rintro ⟨y, hy, h⟩
    obtain ⟨i, hi, rfl⟩ := List.getElem_of_mem hy
    exact ⟨i, hi, by rw [getD_lt hi]; exact h⟩
/-- ContainsFunc over what Free gave. -/
theorem wide_any (o : Int) (ob : Nat) (v : Value) (L : List Bl) (B : Nat) (w : World) (hrow : w.ownsRow B 291 2 v L.length (flat L)) (hnil : L = [] → v = .slice none 0 0) (hlen : L.length ≤ 256) (hc : w.cell? ⟨ob, 0, none⟩ = some (.int .i64 o)) (hl : ob < w.heap.size) :
    Calls Tryz.prog 224 #[v, .func (.func 222) #[] #[.pointer (some ⟨ob, 0, none⟩)]] w fun ev w' => ev = .returned (.bool (L.any fun y => decide (o ≤ y.2))) ∧ Below w.heap.size w w' := by
  have hv : ∃ q c, v = .slice q L.length c ∧ (L ≠ [] → ∃ g', q = some ⟨g', 0, none⟩ ∧ Row w g' L) := by
    by_cases hL : L = []
    · exact ⟨none, 0, by rw [hnil hL, hL]; rfl, fun h => absurd hL h⟩
    · obtain ⟨g, cap, rfl, _, _, _, hr⟩ := row_of hrow hL
      exact ⟨_, _, rfl, fun _ => ⟨g, rfl, hr⟩⟩
  obtain ⟨q, c, rfl, hr⟩ := hv
  rw [← any_range]
  exact has_blocks q L L.length c 222 #[.pointer (some ⟨ob, 0, none⟩)] _ eg59 w rfl hr (by omega) (fun i _ W hW => (wide1_ok ob _ _ o W ((hW.cell (p := ⟨ob, 0, none⟩) hl).trans hc) (Nat.lt_of_lt_of_le hl hW.size)).mono fun e w' hh => ⟨hh.1, btr hW hh.2⟩)
set_option maxHeartbeats 4000000 in
theorem fits_ok (z : Nat) (mn lw hi : Int) (k : Nat) (nb fm tm : Nat → Nat) (nd : Nat → Nd) (fr : Nat → List Nat) (x : Nat) (o : Int) (zb wb ob : Nat) (w : World) (h : DZ w z mn lw hi k nb fm tm nd fr) (hx : x < k)
    (cz : w.cell? ⟨zb, 0, none⟩ = some (ptr z)) (cw : w.cell? ⟨wb, 0, none⟩ = some (.func (.func 222) #[] #[.pointer (some ⟨ob, 0, none⟩)])) (co : w.cell? ⟨ob, 0, none⟩ = some (.int .i64 o)) :
    Calls Tryz.prog 223 (#[.int .i64 x] ++ #[.pointer (some ⟨zb, 0, none⟩), .pointer (some ⟨wb, 0, none⟩)]) w fun ev w' => ev = .returned (.bool (fitB o (nd x))) ∧ Below w.heap.size w w' := by
  obtain ⟨g, c, c1, _, c2⟩ := h.node hx
  have hxk : (x : Int) < k := by omega
  have hx0 : (0 : Int) ≤ x := by omega
  have hlen := (nd_len (h.ok x hx)).1
  have HF := hide (fun w1 (hb : Below w.heap.size w w1) => free_ok _ _ _ _ _ _ w1 ((h.bd x hx).b hb))
  have lo := World.block_lt_of_cell? w _ co
  have lw' := World.block_lt_of_cell? w _ cw
  simp only at lo lw'
  have HA := hide (fun w1 (hb : Below w.heap.size w w1) v B hr hn => wide_any o ob v (nd x).F B w1 hr hn hlen ((hb.cell (p := ⟨ob, 0, none⟩) lo).trans co) (Nat.lt_of_lt_of_le lo hb.size))
  have HW := hide (fun w1 (hb : Below w.heap.size w w1) => (hb.cell (p := ⟨wb, 0, none⟩) lw').trans cw)
  clear h
  simp only [List.append_toArray, List.cons_append, List.nil_append]
  unfold fitB
  generalize (nd x).F.any (fun y => decide (o ≤ y.2)) = d at *
  unfold ptr at *
  have tk : True := trivial
  go_enter Tryz.func223, Tryz.ntmps223
  go_wp2_with fail
  first
  | (go_region_law (first
    | (have _t := tk; go_simp; go_at_call 225; refine ((unhide HF) _ (drw w)).mono ?_; rintro ev w2 ⟨v, rfl, hr, hn, b2⟩; have k2 : Below w.heap.size w w2 := bd b2; have cw2 := (unhide HW) w2 k2; clear tk)
    | (go_simp; go_at_call 224; refine ((unhide HA) w2 k2 v _ hr hn).mono ?_; rintro ev w3 ⟨rfl, b3⟩; have k3 := btr k2 b3)))
  | skip
  all_goals
    go_wp2
    go_ret
    exact ⟨rfl, k3⟩
end Dz
end Go.Proofs.YtcbmfakjfoggaaaGreatDoor
namespace Go.Proofs.YtcbmfakjfoggaaaGreatDoor
open Go.RowKit Go.Maps
namespace Dz
open Fr Bd Zn
set_option maxHeartbeats 4000000 in
theorem sprs_ok (z : Nat) (mn lw hi : Int) (k : Nat) (nb fm tm : Nat → Nat) (nd : Nat → Nd) (fr : Nat → List Nat) (x : Nat) (o : Int) (zb sb : Nat) (w : World) (h : DZ w z mn lw hi k nb fm tm nd fr) (hx : x < k) (h0 : 0 ≤ o) (h6 : o ≤ 6)
    (cz : w.cell? ⟨zb, 0, none⟩ = some (ptr z)) (cs : w.cell? ⟨sb, 0, none⟩ = some (.int .i64 (pw o))) :
    Calls Tryz.prog 226 (#[.int .i64 x] ++ #[.pointer (some ⟨zb, 0, none⟩), .pointer (some ⟨sb, 0, none⟩)]) w fun ev w' => ev = .returned (.bool (sprB o mn (nd x))) ∧ Below w.heap.size w w' := by
  obtain ⟨g, c, c1, hg, c2⟩ := h.node hx
  have hxk : (x : Int) < k := by omega
  have hx0 : (0 : Int) ≤ x := by omega
  have hz0 := h.m0
  have hzl := h.lt
  have hnl := nd_len (h.ok x hx)
  have hbd := pgs_bd hnl.2.2
  have hpl : pgs (nd x).F ≤ 16384 := by have := hnl.1; omega
  have hp0 := hbd.1
  have hs0 := pw_pos o
  have hs1 := pw_le6 o h0 h6
  have HF := hide (fun w1 (hb : Below w.heap.size w w1) => free1_ok _ _ _ _ _ _ w1 ((h.bd x hx).b hb))
  have lz := World.block_lt_of_cell? w _ cz
  have ls := World.block_lt_of_cell? w _ cs
  simp only at lz ls
  unfold sprB
  clear h hnl hbd h0 h6
  simp only [List.append_toArray, List.cons_append, List.nil_append, Array.append_empty] at *
  unfold ptr at *
  generalize pgs (nd x).F = pf at *
  generalize pw o = s at *
  have hwr := hide (IntWalk.i64_in (pf - s) (by omega))
  have KM := hide (fun w1 (hb : Below w.heap.size w w1) => show w1.cell? ⟨zb, 0, none⟩ = some (.pointer (some ⟨z, 0, none⟩)) ∧ w1.cell? ⟨z, 3, none⟩ = some (.slice (some ⟨g, 0, none⟩) k c) ∧ w1.cell? ⟨g, x, none⟩ = some (.pointer (some ⟨nb x, 0, none⟩)) ∧ w1.cell? ⟨sb, 0, none⟩ = some (.int .i64 s) ∧ w1.cell? ⟨z, 0, none⟩ = some (.int .i64 mn) from
    ⟨(hb.cell (p := ⟨zb, 0, none⟩) lz).trans cz, (hb.cell (p := ⟨z, 3, none⟩) hzl).trans c1, (hb.cell (p := ⟨g, x, none⟩) hg).trans c2, (hb.cell (p := ⟨sb, 0, none⟩) ls).trans cs, (hb.cell (p := ⟨z, 0, none⟩) hzl).trans hz0⟩)
  go_enter Tryz.func226, Tryz.ntmps226
  go_wp2_with fail
  go_region_held3 (fun w1 => w1.cell? ⟨zb, 0, none⟩ = some (.pointer (some ⟨z, 0, none⟩)) ∧ w1.cell? ⟨z, 3, none⟩ = some (.slice (some ⟨g, 0, none⟩) k c) ∧ w1.cell? ⟨g, x, none⟩ = some (.pointer (some ⟨nb x, 0, none⟩)) ∧ w1.cell? ⟨sb, 0, none⟩ = some (.int .i64 s) ∧ w1.cell? ⟨z, 0, none⟩ = some (.int .i64 mn)) ((first | (go_keep; done) | (exact (unhide KM) _ (by assumption)))) ((go_at_call 204; refine ((unhide HF) _ (drw w)).mono ?_; rintro ev w2 ⟨rfl, b2⟩; have f2 : Below w.heap.size w w2 := bd b2))
  go_wp2
  go_ret
  exact ⟨by rw [unhide hwr]; rfl, f2⟩
set_option maxHeartbeats 4000000 in
theorem anon_ok (z : Nat) (mn lw hi : Int) (k : Nat) (nb fm tm : Nat → Nat) (nd : Nat → Nd) (fr : Nat → List Nat) (x : Nat) (o : Int) (u : Bool) (zb wb ob sb f1 ub s1 : Nat) (w : World) (h : DZ w z mn lw hi k nb fm tm nd fr) (hx : x < k) (h0 : 0 ≤ o) (h6 : o ≤ 6)
    (cz : w.cell? ⟨zb, 0, none⟩ = some (ptr z)) (cs : w.cell? ⟨sb, 0, none⟩ = some (.int .i64 (pw o))) (cw : w.cell? ⟨wb, 0, none⟩ = some (.func (.func 222) #[] #[.pointer (some ⟨ob, 0, none⟩)])) (co : w.cell? ⟨ob, 0, none⟩ = some (.int .i64 o))
    (cf : w.cell? ⟨f1, 0, none⟩ = some (.func (.func 223) #[] #[.pointer (some ⟨zb, 0, none⟩), .pointer (some ⟨wb, 0, none⟩)])) (cu : w.cell? ⟨ub, 0, none⟩ = some (.bool u)) (cp : w.cell? ⟨s1, 0, none⟩ = some (.func (.func 226) #[] #[.pointer (some ⟨zb, 0, none⟩), .pointer (some ⟨sb, 0, none⟩)])) :
    Calls Tryz.prog 228 (#[.int .i64 x] ++ #[.pointer (some ⟨f1, 0, none⟩), .pointer (some ⟨ub, 0, none⟩), .pointer (some ⟨s1, 0, none⟩)]) w fun ev w' => ev = .returned (.bool (okB o mn u (nd x))) ∧ Below w.heap.size w w' := by
  have HF := hide (fits_ok z mn lw hi k nb fm tm nd fr x o zb wb ob w h hx cz cw co)
  have lz := World.block_lt_of_cell? w _ cz
  have ls := World.block_lt_of_cell? w _ cs
  have lu := World.block_lt_of_cell? w _ cu
  have lp := World.block_lt_of_cell? w _ cp
  simp only at lz ls lu lp
  have HS := hide (fun w1 (hb : Below w.heap.size w w1) => sprs_ok z mn lw hi k nb fm tm nd fr x o zb sb w1 (h.b hb) hx h0 h6 ((hb.cell (p := ⟨zb, 0, none⟩) lz).trans cz) ((hb.cell (p := ⟨sb, 0, none⟩) ls).trans cs))
  clear h cz cs cw co h0 h6
  simp only [List.append_toArray, List.cons_append, List.nil_append] at *
  unfold okB
  generalize fitB o (nd x) = d1 at *
  generalize sprB o mn (nd x) = d2 at *
  go_enter Tryz.func228, Tryz.ntmps228
  go_wp2_with fail
  refine (unhide HF).mono ?_
  rintro ev w2 ⟨rfl, b2⟩
  cases d1 with
  | false =>
    go_wp2
    go_ret
    exact ⟨rfl, b2⟩
  | true =>
    have cu2 := (b2.cell (p := ⟨ub, 0, none⟩) lu).trans cu
    cases u with
    | true =>
      go_wp2
      go_ret
      exact ⟨rfl, b2⟩
    | false =>
      have cp2 := (b2.cell (p := ⟨s1, 0, none⟩) lp).trans cp
      have HX := hide ((unhide HS) w2 b2)
      clear HS
      go_wp2_with fail
      refine (unhide HX).mono ?_
      rintro ev w3 ⟨rfl, b3⟩
      have f3 := btr b2 b3
      cases d2
      all_goals
        go_wp2
        go_ret
        exact ⟨rfl, f3⟩
theorem tag_map {w : World} {A m : Nat} {t : TypeId} {L : List Bl} (ht : Tag w A t) (hm : Mp w m L) : m ≠ A := fun e => by
  obtain ⟨⟨es, clock, h1, _⟩, _, _⟩ := hm
  obtain ⟨cur, fz, h2⟩ := ht
  rw [e, h2] at h1
  cases h1
/-- Where a block of another type turns. -/
theorem DZ.keep {w w' : World} {z A : Nat} {mn lw hi : Int} {k : Nat} {nb fm tm : Nat → Nat} {nd : Nat → Nd} {fr : Nat → List Nat} (h : DZ w z mn lw hi k nb fm tm nd fr) (hk : Kept A A w w') {t : TypeId} (ht : Tag w A t) (n1 : t ≠ 241) (n2 : t ≠ 242) (n3 : t ≠ 38) (n4 : t ≠ 3) (n5 : t ≠ 327) : DZ w' z mn lw hi k nb fm tm nd fr := by
  have hl := h.lt
  have hz := h.tz.ne ht n1.symm
  obtain ⟨g, c, e1, o1⟩ := h.cn
  obtain ⟨g2, c2, rows, e2, o2, r2⟩ := h.cf
  refine ⟨(hk.cell (p := ⟨z, 0, none⟩) hl hz hz).trans h.m0, (hk.cell (p := ⟨z, 1, none⟩) hl hz hz).trans h.m1, (hk.cell (p := ⟨z, 2, none⟩) hl hz hz).trans h.m2, ⟨g, c, (hk.cell (p := ⟨z, 3, none⟩) hl hz hz).trans e1, own_keep o1 hk ht n2⟩, ⟨g2, c2, rows, (hk.cell (p := ⟨z, 4, none⟩) hl hz hz).trans e2, own_keep o2 hk ht n3, fun i hi => ?_⟩, Nat.lt_of_lt_of_le hl hk.size, fun i hi => ?_, h.ok, h.ne, h.fl, h.tz.keep hk hz, fun i hi => (h.tb i hi).keep hk ((h.tb i hi).ne ht n5.symm)⟩
  · obtain ⟨h', d, e3, o3⟩ := r2 i hi
    exact ⟨h', d, e3, own_keep o3 hk ht n4⟩
  · have hb := h.bd i hi
    have q1 := (h.tb i hi).ne ht n5.symm
    have q2 := tag_map ht hb.f
    have q3 := tag_map ht hb.t
    exact hb.blk hk.size (hk.block _ hb.lt q1 q1) (hk.block _ hb.f.lt q2 q2) (hk.block _ hb.t.lt q3 q3)
theorem pb_turn {w w' : World} {b A B : Nat} {LA LB : List Bl} (h : PB w b) (hA : Mp w A LA) (hB : Mp w B LB) (hk : Kept A B w w') : PB w' b := by
  have e := hk.block b h.lt (ne_map h.c0 hA) (ne_map h.c0 hB)
  exact ⟨(World.cell?_of_block (w := w) e).trans h.c0, (World.cell?_of_block (w := w) e).trans h.c1, (World.cell?_of_block (w := w) e).trans h.c2, fun o => (World.frozen?_of_block (w := w) (a := ⟨b, o, none⟩) e).trans (h.f o), Nat.lt_of_lt_of_le h.lt hk.size, h.tg.blk e⟩
theorem kept_set3 {A B : Nat} {w w' : World} (h : Kept A B w w') {c : Nat} (hc : w.heap.size ≤ c) (a b o : Value) : Kept A B w (((w'.setCell ⟨c, 0, none⟩ a).setCell ⟨c, 1, none⟩ b).setCell ⟨c, 2, none⟩ o) := ((h.setNew hc 0 a).setNew hc 1 b).setNew hc 2 o
set_option maxHeartbeats 4000000 in
theorem takeon_ok (z : Nat) (mn lw hi : Int) (k : Nat) (nb fm tm : Nat → Nat) (nd : Nat → Nd) (fr : Nat → List Nat) (x : Nat) (o : Int) (y : Bl) (w : World) (h : DZ w z mn lw hi k nb fm tm nd fr) (hx : x < k) (h0 : 0 ≤ o) (h6 : o ≤ 6) (hf : fit o (nd x).F = some y) :
    Calls Tryz.prog 229 #[ptr z, .int .i64 x, .int .i64 o] w fun ev w' => ev = .returned (.tuple #[plV x y.1 o, .nilIface]) ∧ DZ w' z mn lw hi k nb fm tm (up nd x (tkN o (nd x))) fr ∧ Kept (fm x) (tm x) w w' := by
  have F1 := ballo (Below.refl w.heap.size w) (plO 0 0 0)
  have D1 := h.b F1
  have P1 := pb_new w
  obtain ⟨g, c, c1, hg, c2⟩ := D1.node hx
  have hxk : (x : Int) < k := by omega
  have hx0 : (0 : Int) ≤ x := by omega
  have hok := h.ok x hx
  have HT := take_ok (nb x) (fm x) (tm x) (nd x).N (nd x).F (nd x).T o y _ (D1.bd x hx) hok.2.2 hok.2.1 h0 h6 hf
  have hN : tkN o (nd x) = ⟨(nd x).N, takeF o y (nd x).F, ins (y.1, o) (nd x).T⟩ := by simp [tkN, hf]
  have hokN := tkN_ok h0 hok
  rw [hN] at hokN ⊢
  have HTT := hide HT
  clear HT
  have HD := hide D1
  have K1 : Kept (fm x) (tm x) w (w.alloc (plO 0 0 0)) := kept_of F1
  have hF := (D1.bd x hx).f
  have hT := (D1.bd x hx).t
  have hs1 : w.heap.size < (w.alloc (plO 0 0 0)).heap.size := by simp
  clear h D1 hf hok hN F1
  unfold ptr at *
  unfold plV plO blkV at *
  obtain ⟨ya, yk⟩ := y
  simp only at *
  go_enter Tryz.func229, Tryz.ntmps229
  go_wp2_with fail
  generalize w.alloc (.cells #[.int .i64 0, .int .i64 0, .int .i64 0] 293) = W at *
  refine (unhide HTT).mono ?_
  rintro ev w2 ⟨rfl, B2, k2⟩
  have P2 := (pb_turn P1 hF hT k2).b (ballo (Below.refl _ _) (.cells #[.int .i64 ya, .int .i64 o] 291))
  have D2 := hide (((unhide HD).turn hx k2 (d := ⟨(nd x).N, takeF o (ya, yk) (nd x).F, ins (ya, o) (nd x).T⟩) B2 hokN).b (ballo (Below.refl _ _) (.cells #[.int .i64 ya, .int .i64 o] 291)))
  have K2 := (K1.trans k2).trans (kept_alloc _ _ _ (.cells #[.int .i64 ya, .int .i64 o] 291))
  have q0 := World.cell?_alloc_new w2 #[.int .i64 ya, .int .i64 o] 291 0
  have q1 := World.cell?_alloc_new w2 #[.int .i64 ya, .int .i64 o] 291 1
  have k2s := k2.size
  clear HTT c1 c2 B2 k2 hF hT K1 HD P1
  go_upto_region 4 with (fail)
  have p0 := P2.c0
  have p1 := P2.c1
  have p2 := P2.c2
  have f0 := P2.f 0
  have f1 := P2.f 1
  have f2 := P2.f 2
  have hzw : w.heap.size ≠ w2.heap.size := by have := P2.lt; simp at this; have := k2s; omega
  generalize w2.alloc (.cells #[.int .i64 ya, .int .i64 o] 291) = W3 at *
  go_wp2_with fail
  have t0 : (((W3.setCell ⟨w.heap.size, 0, none⟩ (.int .i64 (x : Int))).setCell ⟨w.heap.size, 1, none⟩ (.int .i64 ya)).setCell ⟨w.heap.size, 2, none⟩ (.int .i64 o)).cell? ⟨w.heap.size, 0, none⟩ = some (.int .i64 (x : Int)) := by rw [cso (by simp), cso (by simp)]; exact css p0
  have t1 : (((W3.setCell ⟨w.heap.size, 0, none⟩ (.int .i64 (x : Int))).setCell ⟨w.heap.size, 1, none⟩ (.int .i64 ya)).setCell ⟨w.heap.size, 2, none⟩ (.int .i64 o)).cell? ⟨w.heap.size, 1, none⟩ = some (.int .i64 ya) := by rw [cso (by simp)]; exact css (by rw [cso (by simp)]; exact p1)
  have t2 : (((W3.setCell ⟨w.heap.size, 0, none⟩ (.int .i64 (x : Int))).setCell ⟨w.heap.size, 1, none⟩ (.int .i64 ya)).setCell ⟨w.heap.size, 2, none⟩ (.int .i64 o)).cell? ⟨w.heap.size, 2, none⟩ = some (.int .i64 o) := css (by rw [cso (by simp), cso (by simp)]; exact p2)
  have ks := ((kept_set (g := w.heap.size) W3 0 (.int .i64 (x : Int))).trans (kept_set _ 1 (.int .i64 ya))).trans (kept_set _ 2 (.int .i64 o))
  have DF := hide ((unhide D2).keep ks P2.tg (by decide) (by decide) (by decide) (by decide) (by decide))
  have KF := kept_set3 K2 (Nat.le_refl _) (.int .i64 (x : Int)) (.int .i64 ya) (.int .i64 o)
  refine bodyPost_ret (v := .tuple #[.agg #[.int .i64 (x : Int), .int .i64 ya, .int .i64 o], .nilIface]) (by simp [results, Tryz.results229, go_sem, t0, t1, t2]; try rfl) rfl ⟨rfl, unhide DF, KF⟩
end Dz
end Go.Proofs.YtcbmfakjfoggaaaGreatDoor
