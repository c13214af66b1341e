/- What all giving back leaves · A config and a list of acts on caches that came in, as the walks take them. -/
import Derived.Test.YtfefehkapffljaaGreatDoorKM
import Derived.Test.YtfefehkapffljaaGreatDoorKI
import Derived.Deep.Slices
import Derived.ChangeSame
namespace Go.Proofs.YtfefehkapffljaaGreatDoor
open Go.RowKit Go.Maps
namespace Sb
open Fr Bd Zn Dz
theorem count_node {m : Nat} {ss : List Sl} (hso : Sorted ss) (hok : ∀ s ∈ ss, sok m s) (x : Nat) : ss.countP (fun s => s.nd == x) ≤ 256 := by
  rw [List.countP_eq_length_filter]
  have hs : Sorted (ss.filter fun s => s.nd == x) := hso.sublist List.filter_sublist
  have hm : ∀ s ∈ ss.filter (fun s => s.nd == x), s.nd = x ∧ sok m s := fun s h => by
    obtain ⟨h1, h2⟩ := List.mem_filter.mp h
    exact ⟨by simpa using h2, hok s h1⟩
  generalize ss.filter (fun s => s.nd == x) = l at *
  have hp : Srt (l.map fun s => (s.at_, (0 : Int))) := by
    unfold Srt
    rw [List.pairwise_map]
    refine List.Pairwise.imp_of_mem (fun ha hb hl => ?_) hs
    have h1 := (hm _ ha).1
    have h2 := (hm _ hb).1
    unfold lt at hl
    simp only
    omega
  have := srt_len (a := 0) (b := 256) hp (fun y hy => by
    obtain ⟨s, h1, rfl⟩ := List.mem_map.mp hy
    have := (hm s h1).2
    unfold sok at this
    simp only
    omega)
  rw [List.length_map] at this
  omega
theorem ex_nil {nd : Nat → Nd} {ss : List Sl} (h : Ex nd ss) {x : Nat} (hx : ∀ s ∈ ss, s.nd ≠ x) : (nd x).T = [] := by
  cases hT : (nd x).T with
  | nil => rfl
  | cons t l =>
    obtain ⟨s, h1, h2, _⟩ := h x t (by rw [hT]; simp)
    exact absurd h2 (hx s h1)
theorem free_all {d : Nd} (h : d.ok) (h0 : 0 ≤ d.N) (hT : d.T = []) : pgs d.F = d.N := by
  have := inv_pgs h.2.2 h0
  rw [hT] at this
  simpa [pgs] using this
/-- What is still to be given back. -/
structure Lf (m : Nat) (sz : Int) (ss : List Sl) (L : List Bl) (t : Nat) : Prop where
  a : ∀ (u : Nat) (o : Bl), t ≤ u → L[u]? = some o → ∃ k i, GiveAt m sz ss o k i
  b : ∀ (k : Nat) (s : Sl) (i : Nat), ss[k]? = some s → i < m → s.bm.testBit i = true → ∃ u, t ≤ u ∧ L[u]? = some ((s.nd : Int), s.at_ * 64 + i * sz)
theorem lf_start (m : Nat) (sz : Int) (ss : List Sl) : Lf m sz ss (obA m sz ss ss.length) 0 :=
  ⟨fun u o _ ho => obA_give (Nat.le_refl _) (List.mem_of_getElem? ho), fun k s i hk hi hb => by
    obtain ⟨u, hu⟩ := List.mem_iff_getElem?.mp (obA_in (n := ss.length) (sz := sz) hk hi hb (List.getElem?_eq_some_iff.mp hk).1)
    exact ⟨u, Nat.zero_le _, hu⟩⟩
theorem apart_ne {sz : Int} (hs : 1 ≤ sz) {a b : Bl} (h : apart sz a b) : a ≠ b := fun e => by
  subst e
  unfold apart at h
  omega
theorem lf_step {m : Nat} {sz : Int} {ss : List Sl} {L : List Bl} {t : Nat} (h : Lf m sz ss L t) (hso : Sorted ss) (hs1 : 1 ≤ sz) (hm : (m : Int) = 64 / sz) (hm64 : m ≤ 64) (hok : ∀ s ∈ ss, sok m s) (hp : L.Pairwise (apart sz)) {o : Bl} (ho : L[t]? = some o) {j i : Nat} {s : Sl} (hg : GiveAt m sz ss o j i) (hs : ss[j]? = some s) :
    Lf m sz (ss.set j { s with bm := s.bm &&& (18446744073709551615 - 2 ^ i) }) L (t + 1) := by
  have hj := (List.getElem?_eq_some_iff.mp hs).1
  have hbs := (hok s (List.mem_of_getElem? hs)).2.2.1
  obtain ⟨s', e1, hi, hbi, hn, ha⟩ := hg
  rw [hs] at e1
  cases e1
  have htb : ∀ i', (s.bm &&& (18446744073709551615 - 2 ^ i)).testBit i' = (s.bm.testBit i' && !decide (i = i')) := fun i' => tb_clear s.bm i i' (by omega) (pow_le64 hbs hm64)
  have hmu : (m : Int) * sz ≤ 64 := by rw [hm]; exact Int.ediv_mul_le _ (by omega)
  refine ⟨fun u o' hu ho' => ?_, fun k s' i' hk hi' hb' => ?_⟩
  · obtain ⟨k, i', s', e1, h2, h3, h4, h5⟩ := h.a u o' (by omega) ho'
    have hne : o ≠ o' := by
      obtain ⟨ht, ht'⟩ := List.getElem?_eq_some_iff.mp ho
      obtain ⟨hu1, hu'⟩ := List.getElem?_eq_some_iff.mp ho'
      have := List.pairwise_iff_getElem.mp hp t u ht hu1 (by omega)
      rw [ht', hu'] at this
      exact apart_ne hs1 this
    by_cases e : k = j
    · subst e
      rw [hs] at e1
      cases e1
      have hii : i ≠ i' := fun e => by
        subst e
        exact hne (Prod.ext (hn.trans h4.symm) (ha.trans h5.symm))
      exact ⟨k, i', _, List.getElem?_set_self hj, h2, by simp only; rw [htb, h3]; simp [hii], h4, h5⟩
    · exact ⟨k, i', s', by rw [List.getElem?_set_ne (Ne.symm e)]; exact e1, h2, h3, h4, h5⟩
  · have key : ∃ s0, ss[k]? = some s0 ∧ s0.bm.testBit i' = true ∧ s0.nd = s'.nd ∧ s0.at_ = s'.at_ ∧ (k = j → i ≠ i') := by
      by_cases e : k = j
      · subst e
        rw [List.getElem?_set_self hj] at hk
        cases hk
        simp only [htb, Bool.and_eq_true, Bool.not_eq_true', decide_eq_false_iff_not] at hb'
        exact ⟨s, hs, hb'.1, rfl, rfl, fun _ => hb'.2⟩
      · rw [List.getElem?_set_ne (Ne.symm e)] at hk
        exact ⟨s', hk, hb', rfl, rfl, fun e' => absurd e' e⟩
    obtain ⟨s0, h1, h2, h3, h4, h5⟩ := key
    obtain ⟨u, hu, hL⟩ := h.b k s0 i' h1 hi' h2
    rw [← h3, ← h4]
    refine ⟨u, ?_, hL⟩
    rcases Nat.eq_or_lt_of_le hu with e | e
    · subst e
      rw [ho] at hL
      simp only [Option.some.injEq] at hL
      obtain ⟨q1, q2⟩ := GiveAt.uniq hso hs1 hmu (o := o) ⟨s, hs, hi, hbi, hn, ha⟩ ⟨s0, h1, hi', h2, by rw [hL], by rw [hL]⟩
      exact absurd q2 (h5 q1.symm)
    · exact e
theorem lf_end {m : Nat} {sz : Int} {ss : List Sl} {L : List Bl} (h : Lf m sz ss L L.length) (hok : ∀ s ∈ ss, sok m s) : ∀ s ∈ ss, s.bm = 0 := fun s hs => by
  obtain ⟨k, hk⟩ := List.mem_iff_getElem?.mp hs
  refine Nat.eq_of_testBit_eq fun i => ?_
  rw [Nat.zero_testBit]
  cases hb : s.bm.testBit i with
  | false => rfl
  | true =>
    exfalso
    rcases Nat.lt_or_ge i m with h' | h'
    · obtain ⟨u, hu, hL⟩ := h.b k s i hk h' hb
      have := (List.getElem?_eq_some_iff.mp hL).1
      omega
    · have := Nat.testBit_lt_two_pow (Nat.lt_of_lt_of_le (hok s hs).2.2.1 (Nat.pow_le_pow_right (by omega) h'))
      rw [this] at hb
      cases hb
end Sb
end Go.Proofs.YtfefehkapffljaaGreatDoor
namespace Go.Proofs.YtfefehkapffljaaGreatDoor
open Go.RowKit Go.ChangeShapes
namespace Sb
theorem cells3 : Tryz.prog.cellsOf 3 = 1 := by kernel_rfl
theorem cellsOf9 : Tryz.prog.cellsOf 9 = 1 := by kernel_rfl
theorem cells46 : Tryz.prog.cellsOf 22 = 1 := by kernel_rfl
theorem cells47 : Tryz.prog.cellsOf 23 = 1 := by kernel_rfl
theorem cells49 : Tryz.prog.cellsOf 25 = 3 := by kernel_rfl
theorem cells51 : Tryz.prog.cellsOf 27 = 5 := by kernel_rfl
theorem cells42 : Tryz.prog.cellsOf 42 = 2 := by kernel_rfl
theorem cells44 : Tryz.prog.cellsOf 44 = 6 := by kernel_rfl
theorem cells4 : Tryz.prog.cellsOf 4 = 1 := by kernel_rfl
open Fr Bd Zn Dz
theorem plain_addr {w : World} {a : Addr} {v : Value} (h0 : w.cell? a = some v) : ∃ blk off, a = ⟨blk, off, none⟩ := by
  obtain ⟨blk, off, spot⟩ := a
  cases spot with
  | none => exact ⟨blk, off, rfl⟩
  | some s =>
    exfalso
    simp only [World.cell?] at h0
    split at h0 <;> simp_all
structure Rw where
  pr : Option Addr
  l : Nat
  c : Nat
  z : Nat → Int
instance : Inhabited Rw := ⟨⟨none, 0, 0, fun _ => 0⟩⟩
section
variable {H : Type} {enc : TypeId × Value → H} {w : World} {base : Nat} {spare : Nat → Bool} {held : Bool}
theorem open_row {fuel : Nat} {v : Value} {x : DataW H × List MemPlace} (h : DataW.trod enc Tryz.prog w base spare held fuel 22 [v] = some x) :
    ∃ r : Rw, v = .slice r.pr r.l r.c ∧ Nums w r.pr r.l r.z ∧ (r.pr = none → r.c = 0) := by
  rcases Go.Deep.open_slice1 Tryz.underlying22 cells3 h with ⟨h0, _⟩ | ⟨a, len, cap, m, n, V, D, Pl, hv, _, _, _, hmm, _, hx⟩
  · obtain rfl : v = .slice none 0 0 := by simpa using h0
    exact ⟨⟨none, 0, 0, fun _ => 0⟩, rfl, fun i hi => by simp at hi, fun _ => rfl⟩
  · obtain rfl : v = .slice (some a) len cap := by simpa using hv
    have hlm : len ≤ m := by rw [hmm]; split <;> omega
    obtain ⟨z, hz⟩ := Go.Deep.choose_lt (α := Int) (p := fun i q => w.cell? (a.add i) = some (.int .i64 q)) (n := len) (fun i hi => by
      obtain ⟨h1, h2⟩ := hx i (by omega)
      obtain ⟨q, hq, _⟩ := DataW.trod_int Tryz.underlying3 h2
      simp at hq
      exact ⟨q, by rw [h1, hq]⟩)
    refine ⟨⟨some a, len, cap, z⟩, rfl, fun i (hi : i < len) => ?_, fun h => by cases h⟩
    have h0 := hz 0 (by omega)
    obtain ⟨blk, off, rfl⟩ := plain_addr (by simpa [Addr.add] using h0)
    have hi' := hz i hi
    rw [add_at] at hi'
    exact ⟨blk, off, rfl, World.block_lt_of_cell? w _ hi', hi'⟩
theorem open_rows {fuel : Nat} {v : Value} {x : DataW H × List MemPlace} (h : DataW.trod enc Tryz.prog w base spare held fuel 23 [v] = some x) :
    ∃ (q : Option Addr) (m qc : Nat) (M : Nat → Nat) (D : Nat → Nat → Int), v = .slice q m qc ∧ Rows2 w q m M D := by
  rcases Go.Deep.open_slice1 Tryz.underlying23 cells46 h with ⟨h0, _⟩ | ⟨a, len, cap, m, n, V, D, Pl, hv, _, _, _, hmm, _, hx⟩
  · obtain rfl : v = .slice none 0 0 := by simpa using h0
    exact ⟨none, 0, 0, fun _ => 0, fun _ _ => 0, rfl, fun i hi => by omega⟩
  · obtain rfl : v = .slice (some a) len cap := by simpa using hv
    have hlm : len ≤ m := by rw [hmm]; split <;> omega
    obtain ⟨r, hr⟩ := Go.Deep.choose_lt (α := Rw) (p := fun i r => w.cell? (a.add i) = some (.slice r.pr r.l r.c) ∧ Nums w r.pr r.l r.z ∧ (r.pr = none → r.c = 0)) (n := len) (fun i hi => by
      obtain ⟨h1, h2⟩ := hx i (by omega)
      obtain ⟨r, hr, hn, h0⟩ := open_row h2
      exact ⟨r, by rw [h1, hr], hn, h0⟩)
    refine ⟨some a, len, cap, fun i => (r i).l, fun i => (r i).z, rfl, fun i hi => ?_⟩
    have h0 := (hr 0 (by omega)).1
    obtain ⟨blk, off, rfl⟩ := plain_addr (by simpa [Addr.add] using h0)
    obtain ⟨h1, h2, h3⟩ := hr i hi
    rw [add_at] at h1
    exact ⟨blk, off, (r i).pr, (r i).c, rfl, World.block_lt_of_cell? w _ h1, h1, h2, h3⟩
set_option maxRecDepth 10000 in
theorem open_conf {fuel : Nat} {cs : List Value} {x : DataW H × List MemPlace} (h : DataW.trod enc Tryz.prog w base spare held fuel 27 cs = some x) :
    ∃ (c : Cf) (p q : Option Addr) (pc qc : Nat), cs = [.slice p c.n pc, .slice q c.m qc, .int .i64 c.mn, .int .i64 c.lw, .int .i64 c.hi] ∧ At w c p q ∧ (p = none → pc = 0) := by
  obtain ⟨xs, k, hk, hxy, hlen, hxl, hf⟩ := DataW.trod_struct Tryz.underlying27 h
  rw [cells51] at hlen
  match xs, hxl, cs, hlen with
  | [y0, y1, y2], _, [v0, v1, v2, v3, v4], _ =>
    have g0 := hf 0 _ rfl
    have g1 := hf 1 _ rfl
    have g2 := hf 2 _ rfl
    simp [cells46, cells47, cells49] at g0 g1 g2
    obtain ⟨r, rfl, hn, hp⟩ := open_row g0
    obtain ⟨q, m, qc, M, D, rfl, hr⟩ := open_rows g1
    obtain ⟨zs, k2, _, _, _, hzl, hg⟩ := DataW.trod_struct Tryz.underlying25 g2
    match zs, hzl with
    | [z0, z1, z2], _ =>
      have e0 := hg 0 _ rfl
      have e1 := hg 1 _ rfl
      have e2 := hg 2 _ rfl
      simp [cells3] at e0 e1 e2
      obtain ⟨mn, h1, _⟩ := DataW.trod_int Tryz.underlying3 e0
      obtain ⟨lw, h2, _⟩ := DataW.trod_int Tryz.underlying3 e1
      obtain ⟨hi, h3, _⟩ := DataW.trod_int Tryz.underlying3 e2
      simp at h1 h2 h3
      subst h1 h2 h3
      exact ⟨⟨r.l, r.z, m, M, D, mn, lw, hi⟩, r.pr, q, r.c, qc, rfl, ⟨hn, hr⟩, hp⟩
/-- The acts of an argument's slice. -/
structure SA where
  s : ByteArray
  x : Int
  n : Int
  u : Bool
  ox : Int
  oa : Int
instance : Inhabited SA := ⟨⟨ByteArray.empty, 0, 0, false, 0, 0⟩⟩
def SActs (w : World) (p : Option Addr) (n : Nat) (A : Nat → SA) : Prop := ∀ i, i < n → ∃ blk off, p = some ⟨blk, off, none⟩ ∧ blk < w.heap.size ∧ w.cell? ⟨blk, off + i * 6, none⟩ = some (.string (A i).s) ∧ w.cell? ⟨blk, off + i * 6 + 1, none⟩ = some (.int .i64 (A i).x) ∧ w.cell? ⟨blk, off + i * 6 + 2, none⟩ = some (.int .i64 (A i).n) ∧ w.cell? ⟨blk, off + i * 6 + 3, none⟩ = some (.bool (A i).u) ∧ w.cell? ⟨blk, off + i * 6 + 4, none⟩ = some (.int .i64 (A i).ox) ∧ w.cell? ⟨blk, off + i * 6 + 5, none⟩ = some (.int .i64 (A i).oa)
set_option maxRecDepth 10000 in
theorem open_sact {n : Nat} {a : Addr} {cs : List Value} {x : DataW H × List MemPlace} (h1 : w.cells? base a 6 = some cs) (h2 : DataW.trod enc Tryz.prog w base spare held n 44 cs = some x) :
    ∃ q : SA, w.cell? (a.add 0) = some (.string q.s) ∧ w.cell? (a.add 1) = some (.int .i64 q.x) ∧ w.cell? (a.add 2) = some (.int .i64 q.n) ∧ w.cell? (a.add 3) = some (.bool q.u) ∧ w.cell? (a.add 4) = some (.int .i64 q.ox) ∧ w.cell? (a.add 5) = some (.int .i64 q.oa) ∧ (Lit.int .i64 q.x).wf = true ∧ (Lit.int .i64 q.n).wf = true := by
  obtain ⟨_, hlen, hcell⟩ := World.cells?_some h1
  obtain ⟨xs, k, hk, hxy, _, hxl, hf⟩ := DataW.trod_struct Tryz.underlying44 h2
  match xs, hxl, cs, hlen with
  | [y0, y1, y2, y3, y4], _, [v0, v1, v2, v3, v4, v5], _ =>
    have g0 := hf 0 _ rfl
    have g1 := hf 1 _ rfl
    have g2 := hf 2 _ rfl
    have g3 := hf 3 _ rfl
    have g4 := hf 4 _ rfl
    simp [cellsOf9, cells3, cells4, cells42] at g0 g1 g2 g3 g4
    have e0 := hcell 0 (by omega)
    have e1 := hcell 1 (by omega)
    have e2 := hcell 2 (by omega)
    have e3 := hcell 3 (by omega)
    have e4 := hcell 4 (by omega)
    have e5 := hcell 5 (by omega)
    obtain ⟨s, hs, _⟩ := DataW.trod_string Tryz.underlying9 g0
    obtain ⟨z, hz, _, wz⟩ := DataW.trod_int Tryz.underlying3 g1
    obtain ⟨o, ho, _, wo⟩ := DataW.trod_int Tryz.underlying3 g2
    obtain ⟨u, hu, _⟩ := DataW.trod_bool Tryz.underlying4 g3
    obtain ⟨p0, p1, m, _, _, hp0, hp1⟩ := trod_struct2 Tryz.underlying42 g4
    simp [cells3] at hp0 hp1
    obtain ⟨px, hpx, _⟩ := DataW.trod_int Tryz.underlying3 hp0
    obtain ⟨pa, hpa, _⟩ := DataW.trod_int Tryz.underlying3 hp1
    simp at hs hz ho hu hpx hpa
    subst hs hz ho hu hpx hpa
    exact ⟨⟨s, z, o, u, px, pa⟩, by simpa using e0, by simpa using e1, by simpa using e2, by simpa using e3, by simpa using e4, by simpa using e5, wz, wo⟩
theorem open_sacts {fuel : Nat} {cs : List Value} {x : DataW H × List MemPlace} (h : DataW.trod enc Tryz.prog w base spare held fuel 28 cs = some x) :
    ∃ (p : Option Addr) (len cap : Nat) (A : Nat → SA), cs = [.slice p len cap] ∧ SActs w p len A ∧ ∀ i, i < len → (Lit.int .i64 (A i).x).wf = true ∧ (Lit.int .i64 (A i).n).wf = true := by
  rcases Go.Deep.open_slice Tryz.underlying28 h with h0 | ⟨a, len, cap, m, n, D, Pl, rfl, hb, hl, hm, hmm, rfl, hx⟩
  · exact ⟨none, 0, 0, fun _ => default, h0.1, fun i hi => by omega, fun i hi => by omega⟩
  have hlm : len ≤ m := by rw [hmm]; split <;> omega
  obtain ⟨q, hq⟩ := Go.Deep.choose_lt (α := SA) (n := len) (p := fun i q => w.cell? ((a.add (i * 6)).add 0) = some (.string q.s) ∧ w.cell? ((a.add (i * 6)).add 1) = some (.int .i64 q.x) ∧ w.cell? ((a.add (i * 6)).add 2) = some (.int .i64 q.n) ∧ w.cell? ((a.add (i * 6)).add 3) = some (.bool q.u) ∧ w.cell? ((a.add (i * 6)).add 4) = some (.int .i64 q.ox) ∧ w.cell? ((a.add (i * 6)).add 5) = some (.int .i64 q.oa) ∧ (Lit.int .i64 q.x).wf = true ∧ (Lit.int .i64 q.n).wf = true) (fun i hi => by
    obtain ⟨cs', h1, h2⟩ := hx i (by omega)
    rw [cells44] at h1
    exact open_sact h1 h2)
  refine ⟨some a, len, cap, q, rfl, fun i hi => ?_, fun i hi => (hq i hi).2.2.2.2.2.2⟩
  have h0 := (hq 0 (by omega)).1
  obtain ⟨blk, off, rfl⟩ := plain_addr (by simpa [Addr.add] using h0)
  obtain ⟨c0, c1, c2, c3, c4, c5, _⟩ := hq i hi
  simp only [add_at, Nat.add_zero] at c0 c1 c2 c3 c4 c5
  exact ⟨blk, off, rfl, World.block_lt_of_cell? w _ c0, c0, c1, c2, c3, c4, c5⟩
end
end Sb
end Go.Proofs.YtfefehkapffljaaGreatDoor
