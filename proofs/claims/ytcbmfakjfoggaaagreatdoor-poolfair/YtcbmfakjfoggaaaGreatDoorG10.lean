/- Package zone's inShape and Check, by contract · Objects as a map's keys; a look-up in an empty map of objects · What lies on trays, as a map of objects in memory. -/
import Derived.Test.YtcbmfakjfoggaaaGreatDoorG09
import Derived.BigQuiet
import Derived.Test.YtcbmfakjfoggaaaGreatDoorG06
import Derived.Maps.OwnSet
import Derived.Maps.OwnOps
import Derived.DeepKeys4
import Derived.Test.YtcbmfakjfoggaaaGreatDoorG02
namespace Go.Proofs.YtcbmfakjfoggaaaGreatDoor
open Go.RowKit
namespace Dz
open Fr Bd Zn
/-- An answer yes or no. -/
def RetB (G : Prop) (ev : Ending) : Prop := ∃ d : Bool, ev = .returned (.bool d) ∧ (d = true ↔ G)
theorem bdN {N : Nat} {w w' : World} (h : Below N w w') (n : Nat) : Below N w (w'.drewN n) := ⟨h.os, h.tape, h.output, h.size, h.block⟩
set_option maxRecDepth 100000 in
set_option maxHeartbeats 8000000 in
theorem insh_ok (c : Cf) (p q : Option Addr) (pc qc : Nat) (w : World) (h : At w c p q) (hwd : ¬ c.wide) :
    Calls Tryz.prog 194 #[cfV c p pc q qc] w fun ev w' => RetB (c.shp ∧ ¬ c.bad3) ev ∧ Below w.heap.size w w' := by
  unfold cfV
  have BX := box_new w c p q pc qc 127
  have F1 := hide (ballo (Below.refl w.heap.size w) (.cells #[.slice p c.n pc, .slice q c.m qc, .int .i64 c.mn, .int .i64 c.lw, .int .i64 c.hi] 127))
  have A1 := h.b (unhide F1)
  have R1 : Hid ((c.m = c.n ∧ ∀ i, i < c.m → c.M i = c.n ∧ ∀ k, k < c.n → i ≠ k → c.D i i < c.D i k) ↔ c.shp ∧ ¬ c.bad3) := by
    show _ ↔ _
    unfold Cf.shp Cf.bad3
    constructor
    · rintro ⟨h1, h2⟩
      refine ⟨⟨h1, fun i hi => (h2 i hi).1⟩, fun ⟨i, hi, k, hk, hne, hle⟩ => ?_⟩
      have := (h2 i (by omega)).2 k hk hne
      omega
    · rintro ⟨⟨h1, h2⟩, h3⟩
      refine ⟨h1, fun i hi => ⟨h2 i hi, fun k hk hne => Int.not_le.1 fun hle => h3 ⟨i, by omega, k, hk, hne, hle⟩⟩⟩
  have hwn : c.n ≤ 20 := Nat.le_of_not_lt fun h => hwd (Or.inl h)
  have hwm : c.m ≤ 20 := Nat.le_of_not_lt fun h => hwd (Or.inr (Or.inl h))
  have hwM : Hid (∀ i, i < c.m → c.M i ≤ 20) := fun i hi => Nat.le_of_not_lt fun h => hwd (Or.inr (Or.inr ⟨i, hi, h⟩))
  clear h hwd
  generalize (c.shp ∧ ¬ c.bad3) = GD at *
  obtain ⟨n, P, m, M, D, mn, lw, hi⟩ := c
  simp only at *
  have b0 := BX.c0
  have b1 := BX.c1
  have hbx := BX.lt
  simp only at b0 b1
  have hrs := hide A1.rs
  simp only at hrs
  clear BX A1
  by_cases e1 : m = n
  · subst e1
    have d1 : ((m : Int) != (m : Int)) = false := by simp
    go_enter Tryz.func194, Tryz.ntmps194
    go_wp2_with fail
    generalize w.alloc (.cells #[.slice p m pc, .slice q m qc, .int .i64 mn, .int .i64 lw, .int .i64 hi] 127) = W at *
    clear d1
    go_wp2_with fail
    have FW := hide (fun w1 (hb : Below W.heap.size W w1) => (unhide F1).trans (hb.mono (unhide F1).size))
    go_loopw [16] (fun a wr => ∃ i : Nat, a = .int .i64 i ∧ i ≤ m ∧ Hid (Below W.heap.size W wr) ∧ Hid (∀ j, j < i → M j = m ∧ ∀ k, k < m → j ≠ k → D j j < D j k)) (fun a _ => m - (RowKit.intOf a).toNat)
    case atStart => exact ⟨0, rfl, Nat.zero_le _, Below.refl _ _, fun j hj => by omega⟩
    case round =>
      obtain ⟨i, rfl, hi', hb, hG⟩ := hrel
      have hge : (0 : Int) ≤ i := by omega
      have b0' := ((unhide hb).cell (p := ⟨w.heap.size, 0, none⟩) hbx).trans b0
      by_cases hin : i < m
      · have hlt : (i : Int) < m := by omega
        obtain ⟨blk, off, pr, cc, rfl, hbl, hc, hnm, _⟩ := (unhide hrs) i hin
        have hc2 := ((unhide hb).cell (p := ⟨blk, off + i, none⟩) hbl).trans hc
        by_cases hl : M i = m
        · have hnm2 : Hid (Nums W pr m (D i)) := by rw [← hl]; exact hnm
          rw [hl] at hc2
          clear hc hnm
          go_wp2_with fail
          go_loopw [29] (fun a wr2 => ∃ k : Nat, a = .int .i64 k ∧ k ≤ m ∧ Hid (Below W.heap.size W wr2) ∧ Hid (∀ j, j < k → i ≠ j → D i i < D i j)) (fun a _ => m - (RowKit.intOf a).toNat)
          case atStart => exact ⟨0, rfl, Nat.zero_le _, hb, fun j hj => by omega⟩
          case round =>
            clear hc2 b0' hb
            obtain ⟨k, rfl, hk', hb2, hK⟩ := hrel
            have hgk : (0 : Int) ≤ k := by omega
            by_cases hkn : k < m
            · have hltk : (k : Int) < m := by omega
              by_cases hik : k = i
              · have hK2 := hide (show ∀ j, j < k + 1 → i ≠ j → D i i < D i j from fun j hj hne => (unhide hK) j (by omega) hne)
                clear hK
                subst hik
                have d2 : ((k : Int) != (k : Int)) = false := by simp
                go_wp2_with fail
                go_quiet (fail)
                have hb3 := hide (bdN (unhide hb2) nq)
                clear hb2
                go_wp2_with fail
                go_roundw
                case rel => exact ⟨k + 1, by go_num, by omega, hb3, hK2⟩
                case measure => simp [RowKit.intOf]; omega
              · have d2 : ((k : Int) != (i : Int)) = true := by simp; omega
                obtain ⟨bl2, of2, rfl, hbl2, y1⟩ := (unhide hnm2) k hkn
                obtain ⟨bl3, of3, e3, _, y2⟩ := (unhide hnm2) i hin
                simp only [Option.some.injEq, Addr.mk.injEq, and_true] at e3
                obtain ⟨rfl, rfl⟩ := e3
                have y1' := ((unhide hb2).cell (p := ⟨bl2, of2 + k, none⟩) hbl2).trans y1
                have y2' := ((unhide hb2).cell (p := ⟨bl2, of2 + i, none⟩) hbl2).trans y2
                have HD : Hid (D i k ≤ D i i ∨ D i i < D i k) := by show _ ∨ _; omega
                clear y1 y2
                rcases unhide HD with h5 | h5
                · have d3 : decide (D i k ≤ D i i) = true := by simpa using h5
                  have HR := hide (show ¬ GD from fun hh => by
                    have h6 := ((unhide R1).2 hh).2 i hin
                    have := h6.2 k hkn (by omega)
                    omega)
                  generalize D i k = x1 at *
                  generalize D i i = x2 at *
                  go_wp2_with fail
                  go_quiet (fail)
                  have hb3 := hide ((unhide FW) _ (bdN (unhide hb2) nq))
                  clear hb2
                  go_wp2
                  go_ret
                  exact ⟨⟨false, rfl, by simpa using unhide HR⟩, unhide hb3⟩
                · have d3 : decide (D i k ≤ D i i) = false := by simpa using h5
                  have hK2 := hide (show ∀ j, j < k + 1 → i ≠ j → D i i < D i j from fun j hj hne => by
                    by_cases e : j = k
                    · subst e; exact h5
                    · exact (unhide hK) j (by omega) hne)
                  have HE : Hid (D i k = D i k) := rfl
                  clear hK
                  obtain ⟨x1, hx1⟩ : ∃ x, x = D i k := ⟨_, rfl⟩
                  obtain ⟨x2, hx2⟩ : ∃ x, x = D i i := ⟨_, rfl⟩
                  rw [← hx1, ← hx2] at d3
                  rw [← hx1] at y1'
                  rw [← hx2] at y2'
                  clear hx1 hx2 h5 HD HE
                  go_wp2_with fail
                  go_quiet (fail)
                  have hb3 := hide (bdN (unhide hb2) nq)
                  clear hb2
                  go_wp2_with fail
                  go_roundw
                  case rel => exact ⟨k + 1, by go_num, by omega, hb3, hK2⟩
                  case measure => simp [RowKit.intOf]; omega
            · have hkm : k = m := by omega
              subst hkm
              have hnl : ¬ (k : Int) < k := by omega
              have hG2 := hide (show ∀ j, j < i + 1 → M j = k ∧ ∀ k', k' < k → j ≠ k' → D j j < D j k' from fun j hj => by
                by_cases e : j = i
                · subst e; exact ⟨hl, unhide hK⟩
                · exact (unhide hG) j (by omega))
              clear hG hK
              go_wp2_with fail
              go_roundw
              case rel => exact ⟨i + 1, by go_num, by omega, hb2, hG2⟩
              case measure => simp [RowKit.intOf]; omega
        · have hle := (unhide hwM) i hin
          have d1 : (((M i : Nat) : Int) != (m : Int)) = true := by simp; omega
          have HR := hide (show ¬ GD from fun hh => hl (((unhide R1).2 hh).2 i hin).1)
          generalize M i = l at *
          have hb3 := hide ((unhide FW) _ (unhide hb))
          go_wp2
          go_ret
          exact ⟨⟨false, rfl, by simpa using unhide HR⟩, unhide hb3⟩
      · have him : i = m := by omega
        subst him
        have HR := hide ((unhide R1).1 ⟨by first | rfl | trivial, unhide hG⟩)
        have hb3 := hide ((unhide FW) _ (unhide hb))
        have hnl : ¬ (i : Int) < i := by omega
        go_wp2
        go_ret
        exact ⟨⟨true, rfl, by simpa using unhide HR⟩, unhide hb3⟩
  · have d1 : ((m : Int) != (n : Int)) = true := by simp; omega
    have HR := hide (show ¬ GD from fun hh => e1 ((unhide R1).2 hh).1)
    go_enter Tryz.func194, Tryz.ntmps194
    go_wp2
    go_ret
    exact ⟨⟨false, rfl, by simpa using unhide HR⟩, unhide F1⟩

/-- The error of a number, as Check says it. -/
def errC (e : Nat → Addr) (i : Int) : Value := if i = 0 then .nilIface else errV (e (i - 1).toNat)
set_option maxHeartbeats 2000000 in
theorem check_ok (c : Cf) (p q : Option Addr) (pc qc : Nat) (w : World) (e : Nat → Addr) (he : Errs3 w e) (h : At w c p q) (hwd : ¬ c.wide) :
    Calls Tryz.prog 142 #[cfV c p pc q qc] w fun ev w' => ∃ i : Int, c.is i ∧ ev = .returned (errC e i) ∧ Below w.heap.size w w' := by
  have F1 := ballo (Below.refl w.heap.size w) (.cells #[.slice p c.n pc, .slice q c.m qc, .int .i64 c.mn, .int .i64 c.lw, .int .i64 c.hi] 127)
  have BX := box_new w c p q pc qc 127
  have H1 := hide (fun w1 (hb : Below w.heap.size w w1) => inb_ok c p q pc qc w1 (h.b hb) hwd)
  have H2 := hide (fun w1 (hb : Below w.heap.size w w1) => insh_ok c p q pc qc w1 (h.b hb) hwd)
  have HE := hide he
  have hB := hide (inB_iff c)
  have I2 : Hid (c.bad2 → ∃ i : Int, c.is i ∧ errV (e 1) = errC e i) := fun hh => ⟨2, Or.inl ⟨rfl, hh⟩, rfl⟩
  have I3 : Hid (¬ c.bad2 → ¬ (c.shp ∧ ¬ c.bad3) → ∃ i : Int, c.is i ∧ errV (e 2) = errC e i) := fun h1 h2 => ⟨3, Or.inr (Or.inl ⟨rfl, h1, by
    by_cases hs : c.shp
    · exact Or.inr (Classical.byContradiction fun h3 => h2 ⟨hs, h3⟩)
    · exact Or.inl hs⟩), rfl⟩
  have I0 : Hid (¬ c.bad2 → (c.shp ∧ ¬ c.bad3) → ∃ i : Int, c.is i ∧ Value.nilIface = errC e i) := fun h1 h2 => ⟨0, Or.inr (Or.inr ⟨rfl, h1, h2.1, h2.2⟩), rfl⟩
  clear h hwd he
  generalize inB c = B at *
  generalize c.bad2 = B2 at *
  generalize (c.shp ∧ ¬ c.bad3) = G at *
  generalize c.is = IS at *
  unfold errV at *
  unfold cfV at *
  go_enter Tryz.func142, Tryz.ntmps142
  go_wp2_with fail
  generalize w.alloc (.cells #[.slice p c.n pc, .slice q c.m qc, .int .i64 c.mn, .int .i64 c.lw, .int .i64 c.hi] 127) = W at *
  refine ((unhide H1) _ F1).mono ?_
  rintro ev w1 ⟨rfl, b1'⟩
  have b1 := btr F1 b1'
  have BX1 := BX.b b1'
  obtain ⟨y0, y1, y2, y3, y4, _⟩ := BX1
  clear BX
  have HX := hide ((unhide H2) w1 b1)
  clear H1 H2
  cases B with
  | false =>
    have hb2 : B2 := Classical.byContradiction fun hh => by simpa using (unhide hB).2 hh
    have x1 := ((unhide HE).below b1).bound
    clear HX
    go_wp2
    go_ret
    obtain ⟨i, h1, h2⟩ := (unhide I2) hb2
    exact ⟨i, h1, by rw [← h2]; rfl, b1⟩
  | true =>
    have hb2 : ¬ B2 := (unhide hB).1 rfl
    have HN := hide hb2
    clear hb2 hB
    go_wp2_with fail
    refine (unhide HX).mono ?_
    rintro ev w2 ⟨⟨d, rfl, hd⟩, b2⟩
    have b3 := btr b1 b2
    have HDD := hide hd
    clear hd
    cases d with
    | false =>
      have x1 := ((unhide HE).below b3).shape
      go_wp2
      go_ret
      obtain ⟨i, h1, h2⟩ := (unhide I3) (unhide HN) (fun hh => by simpa using (unhide HDD).2 hh)
      exact ⟨i, h1, by rw [← h2]; rfl, b3⟩
    | true =>
      go_wp2
      go_ret
      obtain ⟨i, h1, h2⟩ := (unhide I0) (unhide HN) ((unhide HDD).1 (by first | rfl | trivial))
      exact ⟨i, h1, by rw [← h2]; rfl, b3⟩
end Dz
end Go.Proofs.YtcbmfakjfoggaaaGreatDoor
namespace Go.Proofs.YtcbmfakjfoggaaaGreatDoor
open Go.RowKit Go.Maps
namespace Sb
open Fr Bd Zn Dz
theorem laidOut : laidOutB Tryz.prog = true := by kernel_rfl
theorem keyType42 : Tryz.prog.keyType 34 = true := by kernel_rfl
theorem tsize : Tryz.prog.types.size = 454 := by kernel_rfl
theorem cellsOf42 : Tryz.prog.cellsOf 34 = 2 := by kernel_rfl
theorem cellsOf3 : Tryz.prog.cellsOf 3 = 1 := by kernel_rfl
theorem keyed42 : Keyed Tryz.prog 34 := Keyed.of_law (deep_law_laid (P := Tryz.prog) laidOut (m := 2) (by omega) (by rw [tsize]; decide) (by kernel_rfl) (by rw [Tryz.underlying34]))
theorem key42 {a b : Int} (ha : (Lit.int .i64 a).wf = true) (hb : (Lit.int .i64 b).wf = true) : keyOf Tryz.prog 34 (.agg #[.int .i64 a, .int .i64 b]) = some (.string (keyBytes [.int .i64 a, .int .i64 b])) := by
  have e : ∀ d, Tryz.prog.keyLits (d + 1 + 1) 34 [.int .i64 a, .int .i64 b] = some [.int .i64 a, .int .i64 b] := fun d => by
    simp [Program.keyLits, Tryz.underlying34, Tryz.underlying3, cellsOf42, cellsOf3, ha, hb]
  have e2 := e 453
  have e3 : Tryz.prog.types.size + 1 = 453 + 1 + 1 := by rw [tsize]
  rw [← e3] at e2
  simp only [keyOf, Tryz.underlying34]
  rw [show (Value.agg #[.int .i64 a, .int .i64 b]).cells.toList = [.int .i64 a, .int .i64 b] from rfl, e2, keyType42]
  simp [Value.formed, Tryz.underlying34, cellsOf42]
theorem zero165 (w : World) : (zeroValue 175).run Tryz.prog w = .ok (.pointer none) w := by kernel_rfl
theorem alloc_at {w : World} {o : Obj} {b : Nat} {x : Obj} (h : w.heap[b]? = some x) : (w.alloc o).heap[b]? = some x := (ballo (Below.refl w.heap.size w) o).block b (Array.getElem?_eq_some_iff.mp h).1 |>.trans h
end Sb
end Go.Proofs.YtcbmfakjfoggaaaGreatDoor
namespace Go.Proofs.YtcbmfakjfoggaaaGreatDoor
open Go.RowKit Go.Maps
namespace Mg
open Fr Bd Zn Dz Sb
/-- How a pointer to a tray reads. -/
def trE : Value → Option (DataW Unit × List MemPlace)
  | .pointer none => some (.lit (.int .i64 (-1)), [])
  | .pointer (some ⟨b, 0, none⟩) => some (.lit (.int .i64 (b : Int)), [])
  | _ => none
def trV : Option Nat → Value
  | none => .pointer none
  | some b => .pointer (some ⟨b, 0, none⟩)
def trD : Option Nat → DataW Unit
  | none => .lit (.int .i64 (-1))
  | some b => .lit (.int .i64 (b : Int))
theorem trE_V (o : Option Nat) : trE (trV o) = some (trD o, []) := by cases o <;> rfl
theorem trD_inj {o o' : Option Nat} (h : trD o = trD o') : o = o' := by
  cases o <;> cases o' <;> simp only [trD, DataW.lit.injEq, Lit.int.injEq, true_and] at h
  · rfl
  · omega
  · omega
  · rw [show (_ : Nat) = _ from Int.ofNat.inj h]
theorem trE_inv {v : Value} {o : Option Nat} {ps : List MemPlace} (h : trE v = some (trD o, ps)) : v = trV o := by
  unfold trE at h
  split at h
  · simp only [Option.some.injEq, Prod.mk.injEq] at h
    obtain rfl : none = o := trD_inj h.1
    rfl
  · rename_i b
    simp only [Option.some.injEq, Prod.mk.injEq] at h
    obtain rfl : some b = o := trD_inj h.1
    rfl
  · cases h
def okl (a b : Int) : Lit := .string (keyBytes [.int .i64 a, .int .i64 b])
def W2 (a b : Int) : Prop := (Lit.int .i64 a).wf = true ∧ (Lit.int .i64 b).wf = true
theorem okl_inj {a b a' b' : Int} (h : W2 a b) (h' : W2 a' b') (e : okl a b = okl a' b') : a = a' ∧ b = b' := by
  have e2 : keyBytes [.int .i64 a, .int .i64 b] = keyBytes [.int .i64 a', .int .i64 b'] := by simpa [okl] using e
  have := keyBytes_inj (l := [.int .i64 a, .int .i64 b]) (l' := [.int .i64 a', .int .i64 b']) ⟨rfl, rfl, trivial⟩ (fun x hx => by
    simp only [List.mem_cons, List.not_mem_nil, or_false] at hx
    rcases hx with rfl | rfl
    · exact h.1
    · exact h.2) (fun x hx => by
    simp only [List.mem_cons, List.not_mem_nil, or_false] at hx
    rcases hx with rfl | rfl
    · exact h'.1
    · exact h'.2) e2
  simpa using this
def upF (f : Int → Int → Option Nat) (a b : Int) (v : Option Nat) : Int → Int → Option Nat := fun x y => if x = a ∧ y = b then v else f x y
theorem upF_at (f : Int → Int → Option Nat) (a b : Int) (v : Option Nat) : upF f a b v a b = v := by simp [upF]
theorem upF_ne {f : Int → Int → Option Nat} {a b x y : Int} (h : ¬ (x = a ∧ y = b)) (v : Option Nat) : upF f a b v x y = f x y := by simp [upF, h]
/-- The map in block mb says where objects lie; q: no fewer than it has entries. -/
structure Ml (w : World) (mb q : Nat) (f : Int → Int → Option Nat) : Prop where
  own : ∃ D, w.ownsMap (H := Unit) Tryz.prog 34 trE mb q D ∧ ∀ a b, W2 a b → D.atKey (okl a b) (trD none) = trD (f a b)
section
variable {w w' : World} {mb q : Nat} {f : Int → Int → Option Nat}
theorem Ml.lt (h : Ml w mb q f) : mb < w.heap.size := by
  obtain ⟨D, h1, _⟩ := h.own
  exact h1.lt
theorem Ml.blk (h : Ml w mb q f) (hb : w'.heap[mb]? = w.heap[mb]?) : Ml w' mb q f := by
  obtain ⟨D, ⟨es, clock, h1, h2⟩, h3⟩ := h.own
  exact ⟨D, ⟨es, clock, hb.trans h1, h2⟩, h3⟩
theorem Ml.b (h : Ml w mb q f) (hb : Below w.heap.size w w') : Ml w' mb q f := h.blk (hb.block _ h.lt)
theorem Ml.mono (h : Ml w mb q f) {q' : Nat} (hq : q ≤ q') : Ml w mb q' f := by
  obtain ⟨D, h1, h2⟩ := h.own
  exact ⟨D, h1.mono hq, h2⟩
theorem Ml.look (h : Ml w mb q f) {a b : Int} (hw : W2 a b) : (Instr.lookup 245 (.map (some mb)) (.agg #[.int .i64 a, .int .i64 b]) false).run Tryz.prog w = .ok (trV (f a b)) w := by
  obtain ⟨D, h1, h2⟩ := h.own
  obtain ⟨v, ps, hr, hv⟩ := h1.lookup keyed42 Tryz.underlying245 (zero165 w) (trE_V none) (key42 hw.1 hw.2)
  rw [show DataW.atKey D (Lit.string (keyBytes [.int .i64 a, .int .i64 b])) (trD none) = trD (f a b) from h2 a b hw] at hv
  rw [trE_inv hv] at hr
  exact hr
theorem Ml.lookN (h : Ml w mb q f) {a b : Int} (hw : W2 a b) (n : Nat) : (Instr.lookup 245 (.map (some mb)) (.agg #[.int .i64 a, .int .i64 b]) false).run Tryz.prog (w.drewN n) = .ok (trV (f a b)) (w.drewN n) := (h.b (bdN (Below.refl _ _) n)).look hw
theorem Ml.made (w : World) : Ml (w.alloc (.map #[] 0)) w.heap.size 0 (fun _ _ => none) := ⟨.map [], World.ownsMap_made w Tryz.prog 34 trE, fun _ _ _ => rfl⟩
theorem Ml.empty (hb : w.heap[mb]? = some (.map #[] 0)) : Ml w mb 0 (fun _ _ => none) := ⟨.map [], ⟨#[], 0, hb, ⟨by simp, MapKept.stamped_empty 0, by simp⟩, Nat.le_refl _, rfl⟩, fun _ _ _ => rfl⟩
/-- An object is laid. -/
theorem Ml.store (h : Ml w mb q f) (hq : q < maxLen) {a b : Int} (hw : W2 a b) (t : Option Nat) : ∃ w', (Instr.mapUpdate 245 (.map (some mb)) (.agg #[.int .i64 a, .int .i64 b]) (trV t)).run Tryz.prog w = .ok () w' ∧ Ml w' mb (q + 1) (upF f a b t) ∧ Kept mb mb w w' := by
  obtain ⟨D, h1, h2⟩ := h.own
  obtain ⟨w', hr, h3, h4⟩ := h1.store keyed42 Tryz.underlying245 hq (key42 hw.1 hw.2) (trE_V t)
  refine ⟨w', hr, ⟨_, h3, fun x y hx => ?_⟩, kept_turned h4 (Or.inl rfl)⟩
  by_cases e : x = a ∧ y = b
  · obtain ⟨rfl, rfl⟩ := e
    rw [upF_at]
    exact atKey_put_same h1.isMap (keyed42.key (key42 hw.1 hw.2)) _ _
  · rw [upF_ne e, ← h2 x y hx]
    exact atKey_put_other (fun e2 => e (okl_inj hx hw e2)) _ _
/-- An object is lifted. -/
theorem Ml.drop (h : Ml w mb q f) {a b : Int} (hw : W2 a b) (ty : TypeId) : ∃ w', (Builtin.delete_ #[245, 34] ty #[.map (some mb), .agg #[.int .i64 a, .int .i64 b]]).run Tryz.prog w = .ok (.tuple #[]) w' ∧ Ml w' mb q (upF f a b none) ∧ Kept mb mb w w' := by
  obtain ⟨D, h1, h2⟩ := h.own
  obtain ⟨w', hr, h3, h4⟩ := h1.drop keyed42 Tryz.underlying245 (key42 hw.1 hw.2) ty
  refine ⟨w', hr, ⟨_, h3, fun x y hx => ?_⟩, kept_turned h4 (Or.inl rfl)⟩
  by_cases e : x = a ∧ y = b
  · obtain ⟨rfl, rfl⟩ := e
    rw [upF_at]
    exact atKey_del_same _
  · rw [upF_ne e, ← h2 x y hx]
    exact atKey_del_other (fun e2 => e (okl_inj hx hw e2)) _
end
end Mg
end Go.Proofs.YtcbmfakjfoggaaaGreatDoor
