/- C7 · C8 · V19 · C9. -/
import Derived.Test.YtfefehkapffljaaGreatDoorCA
import Derived.Test.YtfefehkapffljaaGreatDoorCC
import Derived.Test.YtfefehkapffljaaGreatDoorKM
import Derived.BigQuiet
import Derived.Test.YtfefehkapffljaaGreatDoorKG
import Derived.Test.YtfefehkapffljaaGreatDoorKK
import Derived.Test.YtfefehkapffljaaGreatDoorGW
import Derived.Test.YtfefehkapffljaaGreatDoorCD
import Derived.Test.YtfefehkapffljaaGreatDoorGB
import Derived.Test.YtfefehkapffljaaGreatDoorCE
namespace Go.Proofs.YtfefehkapffljaaGreatDoor
open Go.RowKit Go.Maps
namespace Sb
open Fr Bd Zn Dz
set_option maxRecDepth 100000 in
set_option maxHeartbeats 8000000 in
theorem places_ok (N0 : Nat) (c z : Nat) (sz : Int) (m : Nat) (bs ts : List Nat) (ss : List Sl) (w : World) (h : RC N0 w c z sz m bs ts ss) (p : Option Addr) (d : Nat) (e2 : w.cell? ⟨c, 2, none⟩ = some (.slice p ss.length d)) (hn : ss.length ≤ 10000) :
   Calls Tryz.prog 87 #[.slice p ss.length d] w fun ev w' => ∃ v, ev = .returned v ∧ w'.ownsRow w.heap.size 73 3 v ss.length (plA ss ss.length) ∧ Below w.heap.size w w' := by
 have HR := hide (fun i (hi : i < ss.length) => h.slab hi)
 have HW := hide (fun (hi : 0 < ss.length) => h.row hi)
 have H0 : Hid (SsI w ss 0 (.slice none 0 0) w) := ⟨Below.refl _ _, World.ownsRow_nil _ _ _ _⟩
 obtain ⟨i0, hi0, hz0, hz1, hz2⟩ := info_parts info73o
 have HI := hide hi0
 have HZ := hide hz0
 have HZ1 := hide hz1
 have HZ2 := hide hz2
 clear h hi0 hz0 hz1 hz2
 go_enter Tryz.func87, Tryz.ntmps87
 go_wp2_with fail
 go_loopw [4, 3] (fun s s3 wr => ∃ i : Nat, s = .int .i64 i ∧ i ≤ ss.length ∧ Hid (SsI w ss i s3 wr)) (fun s _ _ => ss.length - (RowKit.intOf s).toNat)
 case atStart => exact ⟨0, rfl, Nat.zero_le _, H0⟩
 case round =>
   clear H0
   obtain ⟨i, rfl, hi, HS⟩ := hrel
   by_cases hil : i < ss.length
   · obtain ⟨b, t, s, eb, et, es, hS⟩ := (unhide HR) i hil
     obtain ⟨g, d', eg, hg, hrow⟩ := (unhide HW) (by omega)
     rw [e2] at eg
     simp only [Option.some.injEq, Value.slice.injEq, true_and] at eg
     obtain ⟨rfl, rfl⟩ := eg
     have hb := (unhide HS).b
     have hown := (unhide HS).o
     have rb := (hb.cell (p := ⟨g, i, none⟩) hg).trans (hrow i b eb)
     have hbl := hS.tg.lt
     have c0 := (hb.cell (p := ⟨b, 0, none⟩) hbl).trans hS.c0
     have c1 := (hb.cell (p := ⟨b, 1, none⟩) hbl).trans hS.c1
     have c2 := (hb.cell (p := ⟨b, 2, none⟩) hbl).trans hS.c2
     have hpl : plA ss (i + 1) = plA ss i ++ [.int .i64 s.nd, .int .i64 s.at_, .int .i64 0] := by rw [plA, getD_at es]; rfl
     have hi0 : (0 : Int) ≤ i := by omega
     have hi1 : (i : Int) < ss.length := by omega
     have hbs := hb.size
     have HPL := hide hpl
     have HB := hide hb
     clear hrow hS eb et es hpl hb
     unfold ptr at *
     go_wp2_with (at_builtin; refine wpList_append_own _ rfl (.tmp 11) (.tmp 19) 53 rfl w.heap.size 73 i0 (.agg #[.int .i64 0, .int .i64 0, .int .i64 0]) 3 24 Tryz.underlying53 (unhide HI) (unhide HZ) (unhide HZ1) (unhide HZ2) rfl (by decide) _ _ _ rfl (hown.alloc _) ⟨wr.heap.size, 0, none⟩ 1 1 [.int .i64 s.nd, .int .i64 s.at_, .int .i64 0] rfl rfl (news3 _ _ _ _ _) (one3 _ _ _) (by unfold maxLen; omega) (by omega) (by simp; omega) ?_)
     intro v4 w4 o4 q4 _
     have B4 : Below w.heap.size w w4 := ((unhide HB).alloc hbs _).grown q4 (by simp; omega) (own_row hown)
     have HS4 : Hid (SsI w ss (i + 1) v4 w4) := ⟨B4, by rw [unhide HPL]; exact o4⟩
     clear o4 q4 B4 HB HPL hown rb c0 c1 c2
     go_wp2
     go_roundw
     case rel => exact ⟨i + 1, by go_num, by omega, HS4⟩
     case measure => simp [RowKit.intOf]; omega
   · obtain rfl : i = ss.length := by omega
     go_wp2
     go_ret
     exact ⟨_, rfl, (unhide HS).o, (unhide HS).b⟩
theorem sameplaces_ok (b1 b2 : Nat) (v1 v2 : Value) (n : Nat) (xs : List Value) (w : World) (h1 : w.ownsRow b1 73 3 v1 n xs) (h2 : w.ownsRow b2 73 3 v2 n xs) (hx : ∀ i, i < n → ∃ a b c : Int, xs[i * 3]? = some (.int .i64 a) ∧ xs[i * 3 + 1]? = some (.int .i64 b) ∧ xs[i * 3 + 2]? = some (.int .i64 c)) (hn : n ≤ 10000) :
   Calls Tryz.prog 86 #[v1, v2] w fun ev w' => ev = .returned (.bool true) ∧ Below w.heap.size w w' := by
 obtain ⟨p1, d1, rfl⟩ := own_slice h1
 obtain ⟨p2, d2, rfl⟩ := own_slice h2
 have HC1 : Hid (∀ i, i < n → ∃ g a b c, p1 = some ⟨g, 0, none⟩ ∧ g < w.heap.size ∧ xs[i * 3]? = some (.int .i64 a) ∧ xs[i * 3 + 1]? = some (.int .i64 b) ∧ xs[i * 3 + 2]? = some (.int .i64 c) ∧ w.cell? ⟨g, i * 3, none⟩ = some (.int .i64 a) ∧ w.cell? ⟨g, i * 3 + 1, none⟩ = some (.int .i64 b) ∧ w.cell? ⟨g, i * 3 + 2, none⟩ = some (.int .i64 c)) := fun i hi => by
   obtain ⟨a, b, c, e0, e1, e2⟩ := hx i hi
   obtain ⟨g, cap, hv, _, hl⟩ := h1.form (by omega)
   simp only [Value.slice.injEq, true_and] at hv
   obtain ⟨rfl, rfl⟩ := hv
   exact ⟨g, a, b, c, rfl, hl, e0, e1, e2, (h1.cellAt _ (by omega)).trans e0, (h1.cellAt _ (by omega)).trans e1, (h1.cellAt _ (by omega)).trans e2⟩
 have HC2 : Hid (∀ i, i < n → ∃ g, p2 = some ⟨g, 0, none⟩ ∧ g < w.heap.size ∧ w.cell? ⟨g, i * 3, none⟩ = xs[i * 3]? ∧ w.cell? ⟨g, i * 3 + 1, none⟩ = xs[i * 3 + 1]? ∧ w.cell? ⟨g, i * 3 + 2, none⟩ = xs[i * 3 + 2]?) := fun i hi => by
   obtain ⟨g, cap, hv, _, hl⟩ := h2.form (by omega)
   simp only [Value.slice.injEq, true_and] at hv
   obtain ⟨rfl, rfl⟩ := hv
   exact ⟨g, rfl, hl, h2.cellAt _ (by omega), h2.cellAt _ (by omega), h2.cellAt _ (by omega)⟩
 clear h1 h2 hx
 go_enter Tryz.func86, Tryz.ntmps86
 go_wp2_with fail
 go_loopw [5] (fun s wr => ∃ i : Nat, s = .int .i64 i ∧ i ≤ n ∧ Hid (Below w.heap.size w wr)) (fun s _ => n - (RowKit.intOf s).toNat)
 case atStart => exact ⟨0, rfl, Nat.zero_le _, Below.refl _ _⟩
 case round =>
   obtain ⟨i, rfl, hi, hB⟩ := hrel
   have hi0 : (0 : Int) ≤ i := by omega
   by_cases hil : i < n
   · have hi1 : (i : Int) < n := by omega
     obtain ⟨g1, a, b, c, rfl, hl1, x0, x1, x2, c0, c1, c2⟩ := (unhide HC1) i hil
     obtain ⟨g2, rfl, hl2, k0, k1, k2⟩ := (unhide HC2) i hil
     have c0' := ((unhide hB).cell (p := ⟨g1, i * 3, none⟩) hl1).trans c0
     have c1' := ((unhide hB).cell (p := ⟨g1, i * 3 + 1, none⟩) hl1).trans c1
     have c2' := ((unhide hB).cell (p := ⟨g1, i * 3 + 2, none⟩) hl1).trans c2
     have k0' := ((unhide hB).cell (p := ⟨g2, i * 3, none⟩) hl2).trans (k0.trans x0)
     have k1' := ((unhide hB).cell (p := ⟨g2, i * 3 + 1, none⟩) hl2).trans (k1.trans x1)
     have k2' := ((unhide hB).cell (p := ⟨g2, i * 3 + 2, none⟩) hl2).trans (k2.trans x2)
     clear c0 c1 c2 k0 k1 k2 x0 x1 x2
     go_wp2_with fail
     go_quiet (fail)
     go_wp2_with fail
     go_roundw
     case rel => exact ⟨i + 1, by go_num, by omega, bdN (unhide hB) _⟩
     case measure => simp [RowKit.intOf]; omega
   · obtain rfl : i = n := by omega
     go_wp2
     go_ret
     exact ⟨rfl, unhide hB⟩
theorem sameobjs_ok (b1 b2 : Nat) (v1 v2 : Value) (n : Nat) (xs : List Value) (w : World) (h1 : w.ownsRow b1 42 2 v1 n xs) (h2 : w.ownsRow b2 42 2 v2 n xs) (hx : ∀ i, i < n → ∃ a b : Int, xs[i * 2]? = some (.int .i64 a) ∧ xs[i * 2 + 1]? = some (.int .i64 b)) (hn : n ≤ 1000000) :
   Calls Tryz.prog 88 #[v1, v2] w fun ev w' => ev = .returned (.bool true) ∧ Below w.heap.size w w' := by
 obtain ⟨p1, d1, rfl⟩ := own_slice h1
 obtain ⟨p2, d2, rfl⟩ := own_slice h2
 have HC1 : Hid (∀ i, i < n → ∃ g a b, p1 = some ⟨g, 0, none⟩ ∧ g < w.heap.size ∧ xs[i * 2]? = some (.int .i64 a) ∧ xs[i * 2 + 1]? = some (.int .i64 b) ∧ w.cell? ⟨g, i * 2, none⟩ = some (.int .i64 a) ∧ w.cell? ⟨g, i * 2 + 1, none⟩ = some (.int .i64 b)) := fun i hi => by
   obtain ⟨a, b, e0, e1⟩ := hx i hi
   obtain ⟨g, cap, hv, _, hl⟩ := h1.form (by omega)
   simp only [Value.slice.injEq, true_and] at hv
   obtain ⟨rfl, rfl⟩ := hv
   exact ⟨g, a, b, rfl, hl, e0, e1, (h1.cellAt _ (by omega)).trans e0, (h1.cellAt _ (by omega)).trans e1⟩
 have HC2 : Hid (∀ i, i < n → ∃ g, p2 = some ⟨g, 0, none⟩ ∧ g < w.heap.size ∧ w.cell? ⟨g, i * 2, none⟩ = xs[i * 2]? ∧ w.cell? ⟨g, i * 2 + 1, none⟩ = xs[i * 2 + 1]?) := fun i hi => by
   obtain ⟨g, cap, hv, _, hl⟩ := h2.form (by omega)
   simp only [Value.slice.injEq, true_and] at hv
   obtain ⟨rfl, rfl⟩ := hv
   exact ⟨g, rfl, hl, h2.cellAt _ (by omega), h2.cellAt _ (by omega)⟩
 clear h1 h2 hx
 go_enter Tryz.func88, Tryz.ntmps88
 go_wp2_with fail
 go_loopw [5] (fun s wr => ∃ i : Nat, s = .int .i64 i ∧ i ≤ n ∧ Hid (Below w.heap.size w wr)) (fun s _ => n - (RowKit.intOf s).toNat)
 case atStart => exact ⟨0, rfl, Nat.zero_le _, Below.refl _ _⟩
 case round =>
   obtain ⟨i, rfl, hi, hB⟩ := hrel
   have hi0 : (0 : Int) ≤ i := by omega
   by_cases hil : i < n
   · have hi1 : (i : Int) < n := by omega
     obtain ⟨g1, a, b, rfl, hl1, x0, x1, c0, c1⟩ := (unhide HC1) i hil
     obtain ⟨g2, rfl, hl2, k0, k1⟩ := (unhide HC2) i hil
     have c0' := ((unhide hB).cell (p := ⟨g1, i * 2, none⟩) hl1).trans c0
     have c1' := ((unhide hB).cell (p := ⟨g1, i * 2 + 1, none⟩) hl1).trans c1
     have k0' := ((unhide hB).cell (p := ⟨g2, i * 2, none⟩) hl2).trans (k0.trans x0)
     have k1' := ((unhide hB).cell (p := ⟨g2, i * 2 + 1, none⟩) hl2).trans (k1.trans x1)
     clear c0 c1 k0 k1 x0 x1
     go_wp2_with fail
     go_quiet (fail)
     go_wp2_with fail
     go_roundw
     case rel => exact ⟨i + 1, by go_num, by omega, bdN (unhide hB) _⟩
     case measure => simp [RowKit.intOf]; omega
   · obtain rfl : i = n := by omega
     go_wp2
     go_ret
     exact ⟨rfl, unhide hB⟩
end Sb
end Go.Proofs.YtfefehkapffljaaGreatDoor
namespace Go.Proofs.YtfefehkapffljaaGreatDoor
open Go.RowKit Go.Maps
namespace Sb
open Fr Bd Zn Dz
theorem plA_len (ss : List Sl) : ∀ n, (plA ss n).length = n * 3
 | 0 => rfl
 | n + 1 => by rw [plA, List.length_append, plA_len ss n]; simp [plc]; omega
theorem plA_at (ss : List Sl) : ∀ n i, i < n → ∃ a b c : Int, (plA ss n)[i * 3]? = some (.int .i64 a) ∧ (plA ss n)[i * 3 + 1]? = some (.int .i64 b) ∧ (plA ss n)[i * 3 + 2]? = some (.int .i64 c)
 | 0, i, h => by omega
 | n + 1, i, h => by
   have hl := plA_len ss n
   rw [plA]
   rcases Nat.lt_or_ge i n with h' | h'
   · obtain ⟨a, b, c, e0, e1, e2⟩ := plA_at ss n i h'
     exact ⟨a, b, c, by rw [List.getElem?_append_left (by omega)]; exact e0, by rw [List.getElem?_append_left (by omega)]; exact e1, by rw [List.getElem?_append_left (by omega)]; exact e2⟩
   · obtain rfl : i = n := by omega
     refine ⟨(ss.getD i default).nd, (ss.getD i default).at_, 0, ?_, ?_, ?_⟩
     · rw [List.getElem?_append_right (by omega), hl, Nat.sub_self]; rfl
     · rw [List.getElem?_append_right (by omega), hl, show i * 3 + 1 - i * 3 = 1 by omega]; rfl
     · rw [List.getElem?_append_right (by omega), hl, show i * 3 + 2 - i * 3 = 2 by omega]; rfl
theorem flat_at (l : List Bl) (i : Nat) (h : i < l.length) : ∃ a b : Int, (flat l)[i * 2]? = some (.int .i64 a) ∧ (flat l)[i * 2 + 1]? = some (.int .i64 b) := by
 obtain ⟨e0, e1⟩ := flat_get l i h
 rw [Nat.mul_comm] at e0 e1
 exact ⟨_, _, e0, e1⟩
set_option maxRecDepth 100000 in
set_option maxHeartbeats 16000000 in
theorem as_cache (N0 : Nat) (c z : Nat) (ly : Ly) (sz : Int) (m : Nat) (bs : List Nat) (ss : List Sl) (w : World) (h : DC N0 w c z ly sz m bs ss) (N1 rc rz : Nat) (rb rt : List Nat) (hr : RC N1 w rc rz sz m rb rt ss) (hn : ss.length ≤ 10000) :
   Calls Tryz.prog 31 #[ptr c, ptr rc] w fun ev w' => ev = .returned (.int .i64 1) ∧ Below w.heap.size w w' := by
 have hmm := h.mm
 have hml := h.mle
 have HD := hide h
 have HR := hide hr
 have HOB := hide (objects_ok N1 rc rz sz m rb rt ss w hr h.ok hmm hn)
 have htl := tot_le m ss ss.length
 have hmt : ss.length * m ≤ 10000 * 64 := Nat.mul_le_mul hn hml.2
 obtain ⟨p, d, e2, _⟩ := hr.c2
 rw [hr.len] at e2
 have hrl := hr.tg.lt
 have rc1 := hr.c1
 clear h hr
 unfold ptr at *
 go_enter Tryz.func31, Tryz.ntmps31
 go_wp2_with fail
 refine (unhide HOB).mono ?_
 rintro ev w1 ⟨v1, rfl, o1, b1⟩
 have HCT := hide (count_ok N0 c z ly sz m bs ss w1 ((unhide HD).b b1) hn)
 clear HOB
 unfold ptr at *
 go_wp2_with fail
 refine (unhide HCT).mono ?_
 rintro ev w2 ⟨rfl, b2⟩
 have B2 := btr b1 b2
 have O1 := hide (own_b o1 b2)
 have HD2 := hide ((unhide HD).b B2)
 have HR2 := hide ((unhide HR).b B2)
 have e22 := (B2.cell (p := ⟨rc, 2, none⟩) hrl).trans e2
 have rc12 := (B2.cell (p := ⟨rc, 1, none⟩) hrl).trans rc1
 have hrl2 : rc < w2.heap.size := by have := B2.size; omega
 have HB2 := hide B2
 clear HCT HD HR o1 b1 b2 B2 e2 rc1 hrl
 obtain ⟨pt, dt, rfl⟩ := own_slice (unhide O1)
 have HSL := hide (fun W' (hb : Below w2.heap.size w2 W') => (slabs_ok N0 c z ly sz m bs ss W' ((unhide HD2).b hb) hn).mono (fun ev w' hh => show (∃ pv dv, ev = .returned (.slice pv ss.length dv) ∧ w'.ownsRow W'.heap.size 73 3 (.slice pv ss.length dv) ss.length (plA ss ss.length) ∧ Below W'.heap.size W' w') ∧ Below w2.heap.size w2 w' from by
   obtain ⟨v, h1, h2, h3⟩ := hh
   obtain ⟨pv, dv, rfl⟩ := own_slice h2
   exact ⟨⟨pv, dv, h1, h2, h3⟩, btr hb h3⟩))
 have HPL := hide (fun W' (hb : Below w2.heap.size w2 W') => (places_ok N1 rc rz sz m rb rt ss W' ((unhide HR2).b hb) p d ((hb.cell (p := ⟨rc, 2, none⟩) hrl2).trans e22) hn).mono (fun ev w' hh => show (∃ pv dv, ev = .returned (.slice pv ss.length dv) ∧ w'.ownsRow W'.heap.size 73 3 (.slice pv ss.length dv) ss.length (plA ss ss.length) ∧ Below W'.heap.size W' w') ∧ Below w2.heap.size w2 w' from by
   obtain ⟨v, h1, h2, h3⟩ := hh
   obtain ⟨pv, dv, rfl⟩ := own_slice h2
   exact ⟨⟨pv, dv, h1, h2, h3⟩, btr hb h3⟩))
 have HTK := hide (fun W' (hb : Below w2.heap.size w2 W') => (taken_ok N0 c z ly sz m bs ss W' ((unhide HD2).b hb) hn).mono (fun ev w' hh => show (∃ pv dv, ev = .returned (.slice pv (tot m ss ss.length) dv) ∧ w'.ownsRow (W'.heap.size + 1) 42 2 (.slice pv (tot m ss ss.length) dv) (tot m ss ss.length) (flat (obA m sz ss ss.length)) ∧ Below W'.heap.size W' w') ∧ Below w2.heap.size w2 w' from by
   obtain ⟨v, h1, h2, h3⟩ := hh
   obtain ⟨pv, dv, rfl⟩ := own_slice h2
   exact ⟨⟨pv, dv, h1, h2, h3⟩, btr hb h3⟩))
 have HSZ := hide (fun W' (hb : Below w2.heap.size w2 W') => ssize_ok c sz W' ((unhide HD2).b hb).c1)
 have HXP : Hid (∀ i, i < ss.length → ∃ a b c : Int, (plA ss ss.length)[i * 3]? = some (.int .i64 a) ∧ (plA ss ss.length)[i * 3 + 1]? = some (.int .i64 b) ∧ (plA ss ss.length)[i * 3 + 2]? = some (.int .i64 c)) := fun i hi => plA_at ss _ i hi
 have HXO : Hid (∀ i, i < tot m ss ss.length → ∃ a b : Int, (flat (obA m sz ss ss.length))[i * 2]? = some (.int .i64 a) ∧ (flat (obA m sz ss ss.length))[i * 2 + 1]? = some (.int .i64 b)) := fun i hi => flat_at _ i (by rw [obA_len]; exact hi)
 have HKK : Hid (∀ W', Below w2.heap.size w2 W' → W'.cell? ⟨rc, 2, none⟩ = some (.slice p ss.length d) ∧ W'.cell? ⟨rc, 1, none⟩ = some (.int .i64 sz)) := fun W' hb => ⟨(hb.cell (p := ⟨rc, 2, none⟩) hrl2).trans e22, (hb.cell (p := ⟨rc, 1, none⟩) hrl2).trans rc12⟩
 have hq64 : Int.tdiv 64 sz = (m : Int) := (Int.tdiv_eq_ediv_of_nonneg (by omega)).trans hmm.2.2.symm
 have hszn : ¬ sz = 0 := by omega
 have ht6 : tot m ss ss.length ≤ 1000000 := by omega
 have hnm : (ss.length : Int) * (m : Int) = ((ss.length * m : Nat) : Int) := by push_cast; rfl
 have hwr : IntKind.i64.wrap ((ss.length : Int) * (m : Int)) = (ss.length : Int) * (m : Int) := by
   rw [hnm]
   exact IntWalk.i64_in _ (by omega)
 have hwm : IntKind.i64.wrap (m : Int) = (m : Int) := IntWalk.i64_in _ (by omega)
 have hne : ((((ss.length * m : Nat) : Int)) != (ss.length : Int) * (m : Int)) = false := by rw [hnm]; simp
 clear HD2 HR2 hmm htl hnm
 go_wp2_with fail
 go_region_held3 (fun W' => W'.cell? ⟨rc, 2, none⟩ = some (.slice p ss.length d) ∧ W'.cell? ⟨rc, 1, none⟩ = some (.int .i64 sz)) (first | (go_keep; done) | exact (unhide HKK) _ (drw _) | exact (unhide HKK) _ (by assumption)) ((first | (go_at_call 19; refine ((unhide HSL) _ (by first | exact drw _ | assumption)).mono ?_; rintro ev w5 ⟨⟨p5, d5, rfl, o5, b5⟩, B5⟩) | (go_at_call 87; refine ((unhide HPL) _ (by first | exact drw _ | assumption)).mono ?_; rintro ev w6 ⟨⟨p6, d6, rfl, o6, b6⟩, B6⟩) | (go_at_call 86; refine (sameplaces_ok _ _ _ _ _ _ _ (own_b o5 b6) o6 (unhide HXP) hn).mono ?_; rintro ev w7 ⟨rfl, b7⟩; have B7 := btr B6 b7) | (go_at_call 86; refine (sameplaces_ok _ _ _ _ _ _ _ o5 (own_b o6 b5) (unhide HXP) hn).mono ?_; rintro ev w7 ⟨rfl, b7⟩; have B7 := btr B5 b7) | (go_at_call 14; refine ((unhide HTK) _ B7).mono ?_; rintro ev w8 ⟨⟨p8, d8, rfl, o8, b8⟩, B8⟩) | (go_at_call 88; refine (sameobjs_ok _ _ _ _ _ _ _ o8 (own_b (unhide O1) B8) (unhide HXO) ht6).mono ?_; rintro ev w9 ⟨rfl, b9⟩; have B9 := btr B8 b9) | (go_at_call 89; refine ((unhide HSZ) _ B9).mono ?_; rintro ev w10 ⟨rfl, rfl⟩; have B10 := B9)))
 all_goals
   go_wp2
   go_ret
   exact ⟨rfl, btr (unhide HB2) (by assumption)⟩
end Sb
end Go.Proofs.YtfefehkapffljaaGreatDoor
namespace Go.Proofs.YtfefehkapffljaaGreatDoor
open Go.RowKit Go.Maps
namespace Dz
open Fr Bd Zn
end Dz
end Go.Proofs.YtfefehkapffljaaGreatDoor
namespace Go.Proofs.YtfefehkapffljaaGreatDoor
open Go.RowKit Go.Maps
namespace Sb
open Fr Bd Zn Dz
end Sb
end Go.Proofs.YtfefehkapffljaaGreatDoor
