/- A config and a list of acts on zones that came in, as the walks take them. -/
import Derived.Test.YtealnnppoffmnaaGreatDoorGW
import Derived.Test.YtealnnppoffmnaaGreatDoorGY
import Derived.Deep.Slices
import Derived.ChangeSame
namespace Go.Proofs.YtealnnppoffmnaaGreatDoor
open Go.RowKit Go.ChangeShapes
theorem cells46 : Tryz.prog.cellsOf 46 = 1 := by kernel_rfl
theorem cells47 : Tryz.prog.cellsOf 47 = 1 := by kernel_rfl
theorem cells49 : Tryz.prog.cellsOf 49 = 3 := by kernel_rfl
theorem cells51 : Tryz.prog.cellsOf 51 = 5 := by kernel_rfl
theorem cells60 : Tryz.prog.cellsOf 60 = 3 := by kernel_rfl
theorem cells62 : Tryz.prog.cellsOf 62 = 7 := by kernel_rfl
theorem cells4 : Tryz.prog.cellsOf 4 = 1 := by kernel_rfl
namespace Dz
open Fr Bd Zn
theorem plain_addr {w : World} {a : Addr} {v : Value} (h0 : w.cell? a = some v) : ∃ blk off, a = ⟨blk, off, none⟩ := by
  obtain ⟨blk, off, spot⟩ := a
  cases spot with
  | none => exact ⟨blk, off, rfl⟩
  | some s =>
    exfalso
    simp only [World.cell?] at h0
    split at h0 <;> simp_all
structure Rw where
  pr : Option Addr
  l : Nat
  c : Nat
  z : Nat → Int
instance : Inhabited Rw := ⟨⟨none, 0, 0, fun _ => 0⟩⟩
section
variable {H : Type} {enc : TypeId × Value → H} {w : World} {base : Nat} {spare : Nat → Bool} {held : Bool}
theorem open_row {fuel : Nat} {v : Value} {x : DataW H × List MemPlace} (h : DataW.trod enc Tryz.prog w base spare held fuel 46 [v] = some x) :
    ∃ r : Rw, v = .slice r.pr r.l r.c ∧ Nums w r.pr r.l r.z ∧ (r.pr = none → r.c = 0) := by
  rcases Go.Deep.open_slice1 Tryz.underlying46 cells3 h with ⟨h0, _⟩ | ⟨a, len, cap, m, n, V, D, Pl, hv, _, _, _, hmm, _, hx⟩
  · obtain rfl : v = .slice none 0 0 := by simpa using h0
    exact ⟨⟨none, 0, 0, fun _ => 0⟩, rfl, fun i hi => by simp at hi, fun _ => rfl⟩
  · obtain rfl : v = .slice (some a) len cap := by simpa using hv
    have hlm : len ≤ m := by rw [hmm]; split <;> omega
    obtain ⟨z, hz⟩ := Go.Deep.choose_lt (α := Int) (p := fun i q => w.cell? (a.add i) = some (.int .i64 q)) (n := len) (fun i hi => by
      obtain ⟨h1, h2⟩ := hx i (by omega)
      obtain ⟨q, hq, _⟩ := DataW.trod_int Tryz.underlying3 h2
      simp at hq
      exact ⟨q, by rw [h1, hq]⟩)
    refine ⟨⟨some a, len, cap, z⟩, rfl, fun i (hi : i < len) => ?_, fun h => by cases h⟩
    have h0 := hz 0 (by omega)
    obtain ⟨blk, off, rfl⟩ := plain_addr (by simpa [Addr.add] using h0)
    have hi' := hz i hi
    rw [add_at] at hi'
    exact ⟨blk, off, rfl, World.block_lt_of_cell? w _ hi', hi'⟩
theorem open_rows {fuel : Nat} {v : Value} {x : DataW H × List MemPlace} (h : DataW.trod enc Tryz.prog w base spare held fuel 47 [v] = some x) :
    ∃ (q : Option Addr) (m qc : Nat) (M : Nat → Nat) (D : Nat → Nat → Int), v = .slice q m qc ∧ Rows2 w q m M D := by
  rcases Go.Deep.open_slice1 Tryz.underlying47 cells46 h with ⟨h0, _⟩ | ⟨a, len, cap, m, n, V, D, Pl, hv, _, _, _, hmm, _, hx⟩
  · obtain rfl : v = .slice none 0 0 := by simpa using h0
    exact ⟨none, 0, 0, fun _ => 0, fun _ _ => 0, rfl, fun i hi => by omega⟩
  · obtain rfl : v = .slice (some a) len cap := by simpa using hv
    have hlm : len ≤ m := by rw [hmm]; split <;> omega
    obtain ⟨r, hr⟩ := Go.Deep.choose_lt (α := Rw) (p := fun i r => w.cell? (a.add i) = some (.slice r.pr r.l r.c) ∧ Nums w r.pr r.l r.z ∧ (r.pr = none → r.c = 0)) (n := len) (fun i hi => by
      obtain ⟨h1, h2⟩ := hx i (by omega)
      obtain ⟨r, hr, hn, h0⟩ := open_row h2
      exact ⟨r, by rw [h1, hr], hn, h0⟩)
    refine ⟨some a, len, cap, fun i => (r i).l, fun i => (r i).z, rfl, fun i hi => ?_⟩
    have h0 := (hr 0 (by omega)).1
    obtain ⟨blk, off, rfl⟩ := plain_addr (by simpa [Addr.add] using h0)
    obtain ⟨h1, h2, h3⟩ := hr i hi
    rw [add_at] at h1
    exact ⟨blk, off, (r i).pr, (r i).c, rfl, World.block_lt_of_cell? w _ h1, h1, h2, h3⟩
set_option maxRecDepth 10000 in
theorem open_conf {fuel : Nat} {cs : List Value} {x : DataW H × List MemPlace} (h : DataW.trod enc Tryz.prog w base spare held fuel 51 cs = some x) :
    ∃ (c : Cf) (p q : Option Addr) (pc qc : Nat), cs = [.slice p c.n pc, .slice q c.m qc, .int .i64 c.mn, .int .i64 c.lw, .int .i64 c.hi] ∧ At w c p q ∧ (p = none → pc = 0) := by
  obtain ⟨xs, k, hk, hxy, hlen, hxl, hf⟩ := DataW.trod_struct Tryz.underlying51 h
  rw [cells51] at hlen
  match xs, hxl, cs, hlen with
  | [y0, y1, y2], _, [v0, v1, v2, v3, v4], _ =>
    have g0 := hf 0 _ rfl
    have g1 := hf 1 _ rfl
    have g2 := hf 2 _ rfl
    simp [cells46, cells47, cells49] at g0 g1 g2
    obtain ⟨r, rfl, hn, hp⟩ := open_row g0
    obtain ⟨q, m, qc, M, D, rfl, hr⟩ := open_rows g1
    obtain ⟨zs, k2, _, _, _, hzl, hg⟩ := DataW.trod_struct Tryz.underlying49 g2
    match zs, hzl with
    | [z0, z1, z2], _ =>
      have e0 := hg 0 _ rfl
      have e1 := hg 1 _ rfl
      have e2 := hg 2 _ rfl
      simp [cells3] at e0 e1 e2
      obtain ⟨mn, h1, _⟩ := DataW.trod_int Tryz.underlying3 e0
      obtain ⟨lw, h2, _⟩ := DataW.trod_int Tryz.underlying3 e1
      obtain ⟨hi, h3, _⟩ := DataW.trod_int Tryz.underlying3 e2
      simp at h1 h2 h3
      subst h1 h2 h3
      exact ⟨⟨r.l, r.z, m, M, D, mn, lw, hi⟩, r.pr, q, r.c, qc, rfl, ⟨hn, hr⟩, hp⟩
instance : Inhabited ZA := ⟨⟨ByteArray.empty, 0, 0, false, 0, 0, 0⟩⟩
set_option maxRecDepth 10000 in
theorem open_zact {n : Nat} {a : Addr} {cs : List Value} {x : DataW H × List MemPlace} (h1 : w.cells? base a 7 = some cs) (h2 : DataW.trod enc Tryz.prog w base spare held n 62 cs = some x) :
    ∃ q : ZA, w.cell? (a.add 0) = some (.string q.s) ∧ w.cell? (a.add 1) = some (.int .i64 q.x) ∧ w.cell? (a.add 2) = some (.int .i64 q.o) ∧ w.cell? (a.add 3) = some (.bool q.u) ∧ w.cell? (a.add 4) = some (.int .i64 q.px) ∧ w.cell? (a.add 5) = some (.int .i64 q.pa) ∧ w.cell? (a.add 6) = some (.int .i64 q.po) ∧ (Lit.int .i64 q.pa).wf = true := by
  obtain ⟨_, hlen, hcell⟩ := World.cells?_some h1
  obtain ⟨xs, k, hk, hxy, _, hxl, hf⟩ := DataW.trod_struct Tryz.underlying62 h2
  match xs, hxl, cs, hlen with
  | [y0, y1, y2, y3, y4], _, [v0, v1, v2, v3, v4, v5, v6], _ =>
    have g0 := hf 0 _ rfl
    have g1 := hf 1 _ rfl
    have g2 := hf 2 _ rfl
    have g3 := hf 3 _ rfl
    have g4 := hf 4 _ rfl
    simp [cellsOf9, cells3, cells4, cells60] at g0 g1 g2 g3 g4
    have e0 := hcell 0 (by omega)
    have e1 := hcell 1 (by omega)
    have e2 := hcell 2 (by omega)
    have e3 := hcell 3 (by omega)
    have e4 := hcell 4 (by omega)
    have e5 := hcell 5 (by omega)
    have e6 := hcell 6 (by omega)
    obtain ⟨s, hs, _⟩ := DataW.trod_string Tryz.underlying9 g0
    obtain ⟨z, hz, _⟩ := DataW.trod_int Tryz.underlying3 g1
    obtain ⟨o, ho, _⟩ := DataW.trod_int Tryz.underlying3 g2
    obtain ⟨u, hu, _⟩ := DataW.trod_bool Tryz.underlying4 g3
    obtain ⟨p0, p1, m, _, _, hp0, hp1⟩ := trod_struct2 Tryz.underlying60 g4
    simp [cells3, cells33] at hp0 hp1
    obtain ⟨px, hpx, _⟩ := DataW.trod_int Tryz.underlying3 hp0
    obtain ⟨r0, r1, m', _, _, hr0, hr1⟩ := trod_struct2 Tryz.underlying33 hp1
    simp [cells3] at hr0 hr1
    obtain ⟨pa, hpa, _, wpa⟩ := DataW.trod_int Tryz.underlying3 hr0
    obtain ⟨po, hpo, _⟩ := DataW.trod_int Tryz.underlying3 hr1
    simp at hs hz ho hu hpx hpa hpo
    subst hs hz ho hu hpx hpa hpo
    exact ⟨⟨s, z, o, u, px, pa, po⟩, by simpa using e0, by simpa using e1, by simpa using e2, by simpa using e3, by simpa using e4, by simpa using e5, by simpa using e6, wpa⟩
theorem open_zacts {fuel : Nat} {cs : List Value} {x : DataW H × List MemPlace} (h : DataW.trod enc Tryz.prog w base spare held fuel 52 cs = some x) :
    ∃ (p : Option Addr) (len cap : Nat) (A : Nat → ZA), cs = [.slice p len cap] ∧ ZActs w p len A ∧ ∀ i, i < len → (Lit.int .i64 (A i).pa).wf = true := by
  rcases Go.Deep.open_slice Tryz.underlying52 h with h0 | ⟨a, len, cap, m, n, D, Pl, rfl, hb, hl, hm, hmm, rfl, hx⟩
  · exact ⟨none, 0, 0, fun _ => default, h0.1, fun i hi => by omega, fun i hi => by omega⟩
  have hlm : len ≤ m := by rw [hmm]; split <;> omega
  obtain ⟨q, hq⟩ := Go.Deep.choose_lt (α := ZA) (n := len) (p := fun i q => w.cell? ((a.add (i * 7)).add 0) = some (.string q.s) ∧ w.cell? ((a.add (i * 7)).add 1) = some (.int .i64 q.x) ∧ w.cell? ((a.add (i * 7)).add 2) = some (.int .i64 q.o) ∧ w.cell? ((a.add (i * 7)).add 3) = some (.bool q.u) ∧ w.cell? ((a.add (i * 7)).add 4) = some (.int .i64 q.px) ∧ w.cell? ((a.add (i * 7)).add 5) = some (.int .i64 q.pa) ∧ w.cell? ((a.add (i * 7)).add 6) = some (.int .i64 q.po) ∧ (Lit.int .i64 q.pa).wf = true) (fun i hi => by
    obtain ⟨cs', h1, h2⟩ := hx i (by omega)
    rw [cells62] at h1
    exact open_zact h1 h2)
  refine ⟨some a, len, cap, q, rfl, fun i hi => ?_, fun i hi => (hq i hi).2.2.2.2.2.2.2⟩
  have h0 := (hq 0 (by omega)).1
  obtain ⟨blk, off, rfl⟩ := plain_addr (by simpa [Addr.add] using h0)
  obtain ⟨c0, c1, c2, c3, c4, c5, c6, _⟩ := hq i hi
  simp only [add_at, Nat.add_zero] at c0 c1 c2 c3 c4 c5 c6
  exact ⟨blk, off, rfl, World.block_lt_of_cell? w _ c0, c0, c1, c2, c3, c4, c5, c6⟩
end
end Dz
end Go.Proofs.YtealnnppoffmnaaGreatDoor
