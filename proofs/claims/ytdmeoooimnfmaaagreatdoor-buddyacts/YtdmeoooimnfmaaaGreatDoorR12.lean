/- A list of acts that came in, as the walk takes it; BuddyActs, whatever it is called with. -/
import Derived.Test.YtdmeoooimnfmaaaGreatDoorR11
import Derived.Deep.Slices
import Derived.ChangeSame
namespace Go.Proofs.YtdmeoooimnfmaaaGreatDoor
open Go.RowKit Go.ChangeShapes
theorem cells35 : Tryz.prog.cellsOf 35 = 4 := by kernel_rfl
theorem cells33 : Tryz.prog.cellsOf 33 = 2 := by kernel_rfl
theorem cells3 : Tryz.prog.cellsOf 3 = 1 := by kernel_rfl
theorem cellsOf9 : Tryz.prog.cellsOf 9 = 1 := by kernel_rfl
theorem laidOut : laidOutB Tryz.prog = true := by kernel_rfl
namespace Bd
open Fr
structure Act4 where
  s : ByteArray
  z : Int
  a : Int
  k : Int
instance : Inhabited Act4 := ⟨⟨ByteArray.empty, 0, 0, 0⟩⟩
section
variable {H : Type} {enc : TypeId × Value → H} {w : World} {base : Nat} {spare : Nat → Bool} {held : Bool}
set_option maxRecDepth 10000 in
theorem open_act {n : Nat} {a : Addr} {cs : List Value} {x : DataW H × List MemPlace} (h1 : w.cells? base a 4 = some cs) (h2 : DataW.trod enc Tryz.prog w base spare held n 35 cs = some x) :
    ∃ q : Act4, w.cell? (a.add 0) = some (.string q.s) ∧ w.cell? (a.add 1) = some (.int .i64 q.z) ∧ w.cell? (a.add 2) = some (.int .i64 q.a) ∧ w.cell? (a.add 3) = some (.int .i64 q.k) ∧ (Lit.int .i64 q.a).wf = true := by
  obtain ⟨_, hlen, hcell⟩ := World.cells?_some h1
  obtain ⟨xs, k, hk, hxy, _, hxl, hf⟩ := DataW.trod_struct Tryz.underlying35 h2
  match xs, hxl, cs, hlen with
  | [y0, y1, y2], _, [v0, v1, v2, v3], _ =>
    have g0 := hf 0 _ rfl
    have g1 := hf 1 _ rfl
    have g2 := hf 2 _ rfl
    simp [cellsOf9, cells3, cells33] at g0 g1 g2
    have e0 := hcell 0 (by omega)
    have e1 := hcell 1 (by omega)
    have e2 := hcell 2 (by omega)
    have e3 := hcell 3 (by omega)
    obtain ⟨s, hs, _⟩ := DataW.trod_string Tryz.underlying9 g0
    obtain ⟨z, hz, _⟩ := DataW.trod_int Tryz.underlying3 g1
    obtain ⟨p0, p1, m, _, _, hp0, hp1⟩ := trod_struct2 Tryz.underlying33 g2
    simp [cells3] at hp0 hp1
    obtain ⟨q, hq, _, wq⟩ := DataW.trod_int Tryz.underlying3 hp0
    obtain ⟨r, hr, _⟩ := DataW.trod_int Tryz.underlying3 hp1
    simp at hs hz hq hr
    subst hs
    subst hz
    subst hq
    subst hr
    exact ⟨⟨s, z, q, r⟩, by simpa using e0, by simpa using e1, by simpa using e2, by simpa using e3, wq⟩
theorem open_acts {fuel : Nat} {cs : List Value} {x : DataW H × List MemPlace} (h : DataW.trod enc Tryz.prog w base spare held fuel 22 cs = some x) :
    cs = [.slice none 0 0] ∨ ∃ (p : Option Addr) (len cap : Nat) (s : Nat → ByteArray) (z a k : Nat → Int), cs = [.slice p len cap] ∧ Acts w p len s z a k := by
  rcases Go.Deep.open_slice Tryz.underlying22 h with h0 | ⟨a, len, cap, m, n, D, Pl, rfl, hb, hl, hm, hmm, rfl, hx⟩
  · exact Or.inl h0.1
  right
  have hlm : len ≤ m := by rw [hmm]; split <;> omega
  obtain ⟨q, hq⟩ := Go.Deep.choose_lt (α := Act4) (p := fun i q => w.cell? ((a.add (i * 4)).add 0) = some (.string q.s) ∧ w.cell? ((a.add (i * 4)).add 1) = some (.int .i64 q.z) ∧ w.cell? ((a.add (i * 4)).add 2) = some (.int .i64 q.a) ∧ w.cell? ((a.add (i * 4)).add 3) = some (.int .i64 q.k) ∧ (Lit.int .i64 q.a).wf = true) (fun i hi => by
    obtain ⟨cs', h1, h2⟩ := hx i hi
    rw [cells35] at h1
    exact open_act h1 h2)
  refine ⟨some a, len, cap, fun i => (q i).s, fun i => (q i).z, fun i => (q i).a, fun i => (q i).k, rfl, fun i hi => ?_⟩
  obtain ⟨c0, c1, c2, c3, wf⟩ := hq i (by omega)
  have hbl := World.block_lt_of_cell? w _ c0
  obtain ⟨blk, off, spot⟩ := a
  cases spot with
  | none =>
    simp only [add_at] at c0 c1 c2 c3 hbl
    exact ⟨blk, off, rfl, hbl, by simpa using c0, c1, c2, c3, wf⟩
  | some s =>
    exfalso
    have h0 := (hq 0 (by omega)).1
    simp only [Addr.add, World.cell?, Nat.zero_mul, if_true] at h0
    split at h0 <;> simp_all
end

theorem acts_no (N : Int) (p : Option Addr) (n cap : Nat) (w : World) (e : Nat → Addr) (he : Errs w e) (h : 100 < n ∨ N < 1 ∨ 256 < N) :
    Calls Tryz.prog 3 #[.int .i64 N, .slice p n cap] w fun ev w' => ev = .returned (.bool true) ∧ Below w.heap.size w w' := by
  have HE := hide he
  clear he
  by_cases c1 : 100 < n
  · have d1 : decide ((100 : Int) < n) = true := by simp; omega
    go_enter Tryz.func3, Tryz.ntmps3
    go_wp2_with fail
    refine (paired_ok w e (unhide HE).three).mono ?_
    rintro ev w1 ⟨rfl, b1⟩
    go_wp2_with fail
    go_ret
    exact ⟨rfl, b1⟩
  · have d1 : decide ((100 : Int) < n) = false := by simp; omega
    have HN := hide (fun w1 he => new_bad N w1 e he (by omega))
    have hc : (decide (N < 1) = true) ∨ (decide (N < 1) = false ∧ decide (256 < N) = true) := by
      by_cases c2 : N < 1
      · exact Or.inl (by simpa using c2)
      · exact Or.inr ⟨by simpa using c2, by simp; omega⟩
    rcases hc with d2 | ⟨d2, d3⟩
    all_goals
      go_enter Tryz.func3, Tryz.ntmps3
      go_wp2_with fail
      refine (paired_ok w e (unhide HE).three).mono ?_
      rintro ev w1 ⟨rfl, b1⟩
      go_wp2_with fail
      refine ((unhide HN) w1 ((unhide HE).below b1)).mono ?_
      rintro ev w2 ⟨rfl, b2⟩
      have F2 := btr b1 b2
      have HC := hide (coded_sent 1 (by omega) 2 rfl w2 e ((unhide HE).below F2))
      clear b1 b2
      go_wp2_with fail
      refine (unhide HC).mono ?_
      rintro ev w3 ⟨rfl, b3⟩
      go_wp2_with fail
      go_ret
      exact ⟨rfl, btr F2 b3⟩
theorem acts_any (N : Int) (p : Option Addr) (n cap : Nat) (s : Nat → ByteArray) (z a k : Nat → Int) (w : World) (e : Nat → Addr) (he : Errs w e) (hz : Acts w p n s z a k) :
    Calls Tryz.prog 3 #[.int .i64 N, .slice p n cap] w fun ev w' => ev = .returned (.bool true) ∧ Below w.heap.size w w' := by
  by_cases h : 100 < n ∨ N < 1 ∨ 256 < N
  · exact acts_no N p n cap w e he h
  · exact acts_ok N p n cap s z a k w e he (by omega) (by omega) (by omega) hz
end Bd
end Go.Proofs.YtdmeoooimnfmaaaGreatDoor
