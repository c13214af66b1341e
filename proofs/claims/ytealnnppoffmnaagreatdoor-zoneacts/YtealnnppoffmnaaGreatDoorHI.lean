/- ZoneActs, whatever it is called with; a config that came in, its marks in 64 bits. -/
import Derived.Test.YtealnnppoffmnaaGreatDoorGZ
import Derived.Test.YtealnnppoffmnaaGreatDoorHH
import Derived.Lib.SmallJoins
namespace Go.Proofs.YtealnnppoffmnaaGreatDoor
open Go.RowKit Go.ChangeShapes
namespace Dz
open Fr Bd Zn
section
variable {H : Type} {enc : TypeId × Value → H} {w : World} {base : Nat} {spare : Nat → Bool} {held : Bool}
set_option maxRecDepth 10000 in
theorem open_conf2 {fuel : Nat} {cs : List Value} {x : DataW H × List MemPlace} (h : DataW.trod enc Tryz.prog w base spare held fuel 51 cs = some x) :
    ∃ (c : Cf) (p q : Option Addr) (pc qc : Nat), cs = [.slice p c.n pc, .slice q c.m qc, .int .i64 c.mn, .int .i64 c.lw, .int .i64 c.hi] ∧ At w c p q ∧ (p = none → pc = 0) ∧ c.hi ≤ 9223372036854775807 := by
  obtain ⟨xs, k, hk, hxy, hlen, hxl, hf⟩ := DataW.trod_struct Tryz.underlying51 h
  rw [cells51] at hlen
  match xs, hxl, cs, hlen with
  | [y0, y1, y2], _, [v0, v1, v2, v3, v4], _ =>
    have g0 := hf 0 _ rfl
    have g1 := hf 1 _ rfl
    have g2 := hf 2 _ rfl
    simp [cells46, cells47, cells49] at g0 g1 g2
    obtain ⟨r, rfl, hn, hp⟩ := open_row g0
    obtain ⟨q, m, qc, M, D, rfl, hr⟩ := open_rows g1
    obtain ⟨zs, k2, _, _, _, hzl, hg⟩ := DataW.trod_struct Tryz.underlying49 g2
    match zs, hzl with
    | [z0, z1, z2], _ =>
      have e0 := hg 0 _ rfl
      have e1 := hg 1 _ rfl
      have e2 := hg 2 _ rfl
      simp [cells3] at e0 e1 e2
      obtain ⟨mn, h1, _⟩ := DataW.trod_int Tryz.underlying3 e0
      obtain ⟨lw, h2, _⟩ := DataW.trod_int Tryz.underlying3 e1
      obtain ⟨hi, h3, _, w3⟩ := DataW.trod_int Tryz.underlying3 e2
      simp at h1 h2 h3
      subst h1 h2 h3
      exact ⟨⟨r.l, r.z, m, M, D, mn, lw, hi⟩, r.pr, q, r.c, qc, rfl, ⟨hn, hr⟩, hp, by have := Go.Joins.in64_of_wf w3; unfold Go.Joins.In64 at this; exact this.2⟩
end
theorem zacts_any (c : Cf) (p q : Option Addr) (pc qc : Nat) (x : Int) (lp : Option Addr) (ln lc : Nat) (A : Nat → ZA) (w : World) (e : Nat → Addr) (he : Errs w e) (h : At w c p q) (hpc : p = none → pc = 0) (hz : ZActs w lp ln A) (hwf : ∀ i, i < ln → (Lit.int .i64 (A i).pa).wf = true) (hhi : c.hi ≤ 9223372036854775807) :
    Calls Tryz.prog 6 #[cfV c p pc q qc, .int .i64 x, .slice lp ln lc] w fun ev w' => ev = .returned (.bool true) ∧ Below w.heap.size w w' := by
  obtain ⟨i, hi⟩ := Cf.is_ex c
  by_cases hi0 : i = 0
  · subst hi0
    exact zacts_ok c p q pc qc x lp ln lc A w e he h hpc hz hwf hhi hi
  · exact zacts_err c p q pc qc x lp ln lc w e he h hpc i hi hi0
end Dz
end Go.Proofs.YtealnnppoffmnaaGreatDoor
