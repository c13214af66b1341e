/- Package zone's Take, whatever it is called with; the closed fact 'zoned' of the laws of chapter 3 · The cache's slabs are pages that are taken in the zone; both in one memory · Package slab's Take, by contract. -/
import Derived.Test.YtcbmfakjfoggaaaGreatDoorG20
import Derived.Test.YtcbmfakjfoggaaaGreatDoorG21
import Derived.Test.YtcbmfakjfoggaaaGreatDoorG08
import Derived.Test.YtcbmfakjfoggaaaGreatDoorG19
import Derived.Laws.BitsAllLaws
namespace Go.Proofs.YtcbmfakjfoggaaaGreatDoor
open Go.RowKit Go.Maps
namespace Dz
open Fr Bd Zn
/-- What Take answers, whatever it is called with. -/
def TkAny (z : Nat) (mn lw hi : Int) (k : Nat) (nb fm tm : Nat → Nat) (nd : Nat → Nd) (fr : Nat → List Nat) (x o : Int) (u : Bool) (e : Nat → Addr) (w : World) (ev : Ending) (w' : World) : Prop :=
  (∃ a : Nat, a < 10 ∧ ev = .returned (.tuple #[.agg #[.int .i64 0, .int .i64 0, .int .i64 0], .iface 424 (.pointer (some (e a)))]) ∧ Below w.heap.size w w' ∧ ((a = 1 ∧ (¬ (0 ≤ x ∧ x < k) ∨ o < 0 ∨ 6 < o)) ∨ ∃ x' : Nat, x = x' ∧ x' < k ∧ 0 ≤ o ∧ o ≤ 6 ∧ (fr x').find? (fun i => tkC o mn u (nd i) == 2) = none ∧ a = if (fr x').any (fun i => tkC o mn u (nd i) == 1) then 6 else 4)) ∨
  ∃ (x' i : Nat) (at' : Int), x = x' ∧ x' < k ∧ 0 ≤ o ∧ o ≤ 6 ∧ (fr x').find? (fun i => tkC o mn u (nd i) == 2) = some i ∧ i < k ∧ at' = tkA o (nd i) ∧ ev = .returned (.tuple #[.agg #[.int .i64 (i : Int), .int .i64 at', .int .i64 o], .nilIface]) ∧ DZ w' z mn lw hi k nb fm tm (up nd i (tkN o (nd i))) fr ∧ Kept (fm i) (tm i) w w'
theorem one_mem (w : World) (A B C D : Obj) (cA cB cC cD : Array Value) (tA tB tC tD : TypeId) (hA : A = .cells cA tA) (hB : B = .cells cB tB) (hC : C = .cells cC tC) (hD : D = .cells cD tD) :
    (∀ j, ((((w.alloc A).alloc B).alloc C).alloc D).cell? ⟨w.heap.size, j, none⟩ = cA[j]?) ∧ (∀ j, ((((w.alloc A).alloc B).alloc C).alloc D).cell? ⟨w.heap.size + 1, j, none⟩ = cB[j]?) ∧ (∀ j, ((((w.alloc A).alloc B).alloc C).alloc D).cell? ⟨w.heap.size + 2, j, none⟩ = cC[j]?) ∧ (∀ j, ((((w.alloc A).alloc B).alloc C).alloc D).cell? ⟨w.heap.size + 3, j, none⟩ = cD[j]?) ∧ ((((w.alloc A).alloc B).alloc C).alloc D).heap.size = w.heap.size + 4 ∧ Below w.heap.size w ((((w.alloc A).alloc B).alloc C).alloc D) := by
  subst hA hB hC hD
  have s1 : (w.alloc (.cells cA tA)).heap.size = w.heap.size + 1 := by simp
  have s2 : ((w.alloc (.cells cA tA)).alloc (.cells cB tB)).heap.size = w.heap.size + 2 := by simp
  have s3 : (((w.alloc (.cells cA tA)).alloc (.cells cB tB)).alloc (.cells cC tC)).heap.size = w.heap.size + 3 := by simp
  refine ⟨fun j => ?_, fun j => ?_, fun j => ?_, fun j => ?_, by simp, ballo (ballo (ballo (ballo (Below.refl _ _) _) _) _) _⟩
  · exact ((ballo (ballo (ballo (Below.refl _ _) _) _) _).cell (p := ⟨w.heap.size, j, none⟩) (by rw [s1]; simp)).trans (World.cell?_alloc_new w cA tA j)
  · have q := World.cell?_alloc_new (w.alloc (.cells cA tA)) cB tB j
    rw [s1] at q
    exact ((ballo (ballo (Below.refl _ _) _) _).cell (p := ⟨w.heap.size + 1, j, none⟩) (by rw [s2]; simp)).trans q
  · have q := World.cell?_alloc_new ((w.alloc (.cells cA tA)).alloc (.cells cB tB)) cC tC j
    rw [s2] at q
    exact ((ballo (Below.refl _ _) _).cell (p := ⟨w.heap.size + 2, j, none⟩) (by rw [s3]; simp)).trans q
  · have q := World.cell?_alloc_new (((w.alloc (.cells cA tA)).alloc (.cells cB tB)).alloc (.cells cC tC)) cD tD j
    rw [s3] at q
    exact q
theorem one_fr : nfr (fun _ => (0 : Int)) 1 1001 = [0] := (nfr_is (by omega) (by simp) (by simp)).symm
end Dz
end Go.Proofs.YtcbmfakjfoggaaaGreatDoor
namespace Go.Proofs.YtcbmfakjfoggaaaGreatDoor
open Go.RowKit Go.Maps
namespace Sb
open Fr Bd Zn Dz
/-- Each slab's page is taken. -/
def Ow (k : Nat) (nd : Nat → Nd) (ss : List Sl) : Prop := ∀ s ∈ ss, s.nd < k ∧ (s.at_, 0) ∈ (nd s.nd).T
theorem tk_page {mn : Int} {u : Bool} {d : Nd} (hok : d.ok) (h : tkC 0 mn u d = 2) : 0 ≤ tkA 0 d ∧ tkA 0 d < 256 ∧ (∀ t ∈ d.T, t.1 ≠ tkA 0 d) ∧ (tkA 0 d, 0) ∈ (tkN 0 d).T ∧ ∀ t ∈ d.T, t ∈ (tkN 0 d).T := by
  cases hf : fit 0 d.F with
  | none => simp [tkC, hf] at h
  | some y =>
    have e1 : tkA 0 d = y.1 := by simp [tkA, hf]
    have e2 : (tkN 0 d).T = Bd.ins (y.1, 0) d.T := by simp [tkN, hf]
    obtain ⟨hy, hy2⟩ := fit_some hf
    have hin := hok.2.2.inF hy
    have hpw := pw_pos y.2
    have hno : ∀ t ∈ d.T, t.1 ≠ y.1 := fun t ht e => by
      have := (hok.2.2.outF hy).offT ht
      omega
    rw [e1, e2]
    exact ⟨hin.1, by have := hok.2.1; omega, hno, mem_ins_self _ _, fun t ht => mem_ins_other ht (hno t ht)⟩
theorem Ow.fresh {k : Nat} {nd : Nat → Nd} {ss : List Sl} (h : Ow k nd ss) {mn : Int} {u : Bool} {i : Nat} (hok : (nd i).ok) (ht : tkC 0 mn u (nd i) = 2) : ∀ s ∈ ss, s.nd = i → s.at_ ≠ tkA 0 (nd i) := fun s hs e he => by
  have := (h s hs).2
  rw [e] at this
  exact (tk_page hok ht).2.2.1 _ this he
theorem Ow.take {k : Nat} {nd : Nat → Nd} {ss : List Sl} (h : Ow k nd ss) {mn : Int} {u : Bool} {i : Nat} (_hi : i < k) (hok : (nd i).ok) (ht : tkC 0 mn u (nd i) = 2) : Ow k (up nd i (tkN 0 (nd i))) ss := fun s hs => by
  refine ⟨(h s hs).1, ?_⟩
  by_cases e : s.nd = i
  · rw [e, up_at]
    have := (h s hs).2
    rw [e] at this
    exact (tk_page hok ht).2.2.2.2 _ this
  · rw [up_ne _ _ e]; exact (h s hs).2
theorem Ow.ins {k : Nat} {nd : Nat → Nd} {ss : List Sl} (h : Ow k nd ss) {x : Sl} (hx : x.nd < k ∧ (x.at_, 0) ∈ (nd x.nd).T) (q : Nat) : Ow k nd (Sb.ins ss q x) := fun s hs => by
  rcases ins_mem.mp hs with rfl | h'
  · exact hx
  · exact h s h'
theorem Ow.set {k : Nat} {nd : Nat → Nd} {ss : List Sl} (h : Ow k nd ss) {j : Nat} {s : Sl} (hs : ss[j]? = some s) (b : Nat) : Ow k nd (ss.set j { s with bm := b }) := fun s' hs' => by
  rcases List.mem_or_eq_of_mem_set hs' with h1 | rfl
  · exact h s' h1
  · exact h s (List.mem_of_getElem? hs)
/-- A zone and a cache on it. -/
structure PS (N0 : Nat) (w : World) (c z : Nat) (ly : Ly) (sz : Int) (m : Nat) (bs : List Nat) (ss : List Sl) (mn lw hi : Int) (k : Nat) (nb fm tm : Nat → Nat) (nd : Nat → Nd) (fr : Nat → List Nat) : Prop where
  d : DZ w z mn lw hi k nb fm tm nd fr
  c : DC N0 w c z ly sz m bs ss
  ow : Ow k nd ss
  mf : ∀ i, i < k → N0 ≤ fm i ∧ N0 ≤ tm i
  k4 : k ≤ 20
  ml : ∀ i, i < k → ∀ j, Lk ly j → j ≠ fm i ∧ j ≠ tm i
section
variable {N0 : Nat} {w w' : World} {c z : Nat} {ly : Ly} {sz : Int} {m : Nat} {bs : List Nat} {ss : List Sl} {mn lw hi : Int} {k : Nat} {nb fm tm : Nat → Nat} {nd : Nat → Nd} {fr : Nat → List Nat}
theorem PS.b (h : PS N0 w c z ly sz m bs ss mn lw hi k nb fm tm nd fr) (hb : Below w.heap.size w w') : PS N0 w' c z ly sz m bs ss mn lw hi k nb fm tm nd fr := ⟨h.d.b hb, h.c.b hb, h.ow, h.mf, h.k4, h.ml⟩
/-- No more slabs than pages. -/
theorem sl_len (h : PS N0 w c z ly sz m bs ss mn lw hi k nb fm tm nd fr) : ss.length ≤ 10000 := by
  have hs := h.c.so
  have hok := h.c.ok
  have ho := h.ow
  have hk := h.k4
  let f : Sl → Int × Int := fun s => ((s.nd : Int) * 256 + s.at_, 0)
  have hp : Srt (ss.map f) := by
    unfold Srt
    rw [List.pairwise_map]
    refine List.Pairwise.imp_of_mem (fun ha hb hl => ?_) hs
    have h1 := hok _ ha
    have h2 := hok _ hb
    unfold sok at h1 h2
    unfold lt at hl
    simp only [f]
    omega
  have := srt_len (l := ss.map f) (a := 0) (b := 256 * 20) hp (fun x hx => by
    obtain ⟨s, hs', rfl⟩ := List.mem_map.1 hx
    have h1 := hok s hs'
    have h2 := (ho s hs').1
    unfold sok at h1
    simp only [f]
    omega)
  rw [List.length_map] at this
  omega
end
end Sb
end Go.Proofs.YtcbmfakjfoggaaaGreatDoor
namespace Go.Proofs.YtcbmfakjfoggaaaGreatDoor
open Go.RowKit Go.Maps
namespace Sb
open Fr Bd Zn Dz
/-- A box of an object. -/
structure Rx (w : World) (r : Nat) (u v : Value) : Prop where
  c0 : w.cell? ⟨r, 0, none⟩ = some u
  c1 : w.cell? ⟨r, 1, none⟩ = some v
  fz : ∀ o, w.frozen? ⟨r, o, none⟩ = false
  tg : Tag w r 34
theorem Rx.blk {w w' : World} {r : Nat} {u v : Value} (h : Rx w r u v) (hb : w'.heap[r]? = w.heap[r]?) : Rx w' r u v :=
  ⟨(World.cell?_of_block (a := ⟨r, 0, none⟩) hb).trans h.c0, (World.cell?_of_block (a := ⟨r, 1, none⟩) hb).trans h.c1, fun o => (World.frozen?_of_block (a := ⟨r, o, none⟩) hb).trans (h.fz o), h.tg.blk hb⟩
theorem Rx.b {w w' : World} {r : Nat} {u v : Value} (h : Rx w r u v) (hb : Below w.heap.size w w') : Rx w' r u v := h.blk (hb.block r h.tg.lt)
theorem Rx.c {ts : List (Option TypeId)} {N : Nat} {w w' : World} {r : Nat} {u v : Value} (h : Rx w r u v) (hc : Chg ts N w w') (hn : some 34 ∉ ts) : Rx w' r u v := h.blk (hc.same h.tg hn)
theorem rx_new (w : World) : Rx (w.alloc (.cells #[.int .i64 0, .int .i64 0] 34)) w.heap.size (.int .i64 0) (.int .i64 0) := by
  have q := World.cell?_alloc_new w #[.int .i64 0, .int .i64 0] 34
  exact ⟨q 0, q 1, fun o => World.frozen?_alloc_at _ _ w.heap.size o rfl, tag_new _ _ _⟩
theorem below_set2 {w W : World} {r : Nat} (h : Below w.heap.size w W) (hr : w.heap.size ≤ r) (u v : Value) : Below w.heap.size w ((W.setCell ⟨r, 0, none⟩ u).setCell ⟨r, 1, none⟩ v) := (h.setCell hr u).setCell hr v
theorem set2_far {W : World} {r : Nat} {p : Addr} {x : Value} (h : W.cell? p = some x) (hne : p.block ≠ r) (u v : Value) : ((W.setCell ⟨r, 0, none⟩ u).setCell ⟨r, 1, none⟩ v).cell? p = some x :=
  (cso (fun e => hne (by rw [← e]))).trans ((cso (fun e => hne (by rw [← e]))).trans h)
theorem set2_at {W : World} {r : Nat} {a b : Value} (h0 : W.cell? ⟨r, 0, none⟩ = some a) (h1 : W.cell? ⟨r, 1, none⟩ = some b) (u v : Value) : ((W.setCell ⟨r, 0, none⟩ u).setCell ⟨r, 1, none⟩ v).cell? ⟨r, 0, none⟩ = some u ∧ ((W.setCell ⟨r, 0, none⟩ u).setCell ⟨r, 1, none⟩ v).cell? ⟨r, 1, none⟩ = some v :=
  ⟨(cso (by simp)).trans (css h0), css ((cso (by simp)).trans h1)⟩
theorem Chg.fresh {ts : List (Option TypeId)} {N : Nat} {w w' : World} (h : Chg ts N w w') {r : Nat} (hr : w.heap.size ≤ r) (o : Nat) (v : Value) : Chg ts N w (w'.setCell ⟨r, o, none⟩ v) :=
  ⟨h.os, h.tape, h.output, Nat.le_trans h.size (by simp [World.setCell]), fun k hk => by
    rw [Below.heap_setCell _ _ _ _ (by simp only; omega)]
    exact h.blk k hk⟩
theorem Chg.drew {ts : List (Option TypeId)} {N : Nat} {w w' : World} (h : Chg ts N w w') : Chg ts N w w'.drew := ⟨h.os, h.tape, h.output, h.size, h.blk⟩
section
variable {N0 : Nat} {w w' : World} {c z : Nat} {ly : Ly} {sz : Int} {m : Nat} {bs : List Nat} {ss : List Sl} {mn lw hi : Int} {k : Nat} {nb fm tm : Nat → Nat} {nd : Nat → Nd} {fr : Nat → List Nat}
theorem PS.chg (h : PS N0 w c z ly sz m bs ss mn lw hi k nb fm tm nd fr) {ts : List (Option TypeId)} {N : Nat} (hc : Chg ts N w w') (h0 : none ∉ ts) (h1 : ∀ t ∈ ([241, 242, 38, 3, 327] : List TypeId), some t ∉ ts) (h2 : ∀ t ∈ ([248, 288, 300] : List TypeId), some t ∉ ts) : PS N0 w' c z ly sz m bs ss mn lw hi k nb fm tm nd fr :=
  ⟨dz_chg h.d hc h0 h1, h.c.same (hc.toSame h2) (hc.ly h0 h.c.ym), h.ow, h.mf, h.k4, h.ml⟩
theorem PS.rx (h : PS N0 w c z ly sz m bs ss mn lw hi k nb fm tm nd fr) {r : Nat} {a b : Value} (hr : Rx w r a b) (u v : Value) : PS N0 ((w.setCell ⟨r, 0, none⟩ u).setCell ⟨r, 1, none⟩ v) c z ly sz m bs ss mn lw hi k nb fm tm nd fr :=
  h.chg ((Chg.set hr.tg (Nat.zero_le _) 0 u).trans (Chg.set (hr.tg.set _ _) (Nat.zero_le _) 1 v)) (by decide) (by decide) (by decide)
/-- A slab's bits turn. -/
theorem PS.bit (h : PS N0 w c z ly sz m bs ss mn lw hi k nb fm tm nd fr) {j b : Nat} {s : Sl} (eb : bs[j]? = some b) (es : ss[j]? = some s) {x : Nat} (hx : x < 2 ^ m) : PS N0 (w.setCell ⟨b, 3, none⟩ (.int .u64 x)) c z ly sz m bs (ss.set j { s with bm := x }) mn lw hi k nb fm tm nd fr := by
  have hS := h.c.sl j b s eb es
  have hc : Chg [some 300] 0 w (w.setCell ⟨b, 3, none⟩ (.int .u64 x)) := Chg.set hS.tg (Nat.zero_le _) 3 _
  have hk : Kept b b w (w.setCell ⟨b, 3, none⟩ (.int .u64 x)) := ⟨rfl, rfl, rfl, by simp [World.setCell], fun i _ h1 _ => Below.heap_setCell _ _ _ _ h1⟩
  exact ⟨dz_chg h.d hc (by decide) (by decide), h.c.turn eb es x hx hk ⟨(cso (by simp)).trans hS.c0, (cso (by simp)).trans hS.c1, (cso (by simp)).trans hS.c2, css hS.c3, hS.tg.set _ _, fun o => by rw [World.frozen?_setCell]; exact hS.fz o⟩, h.ow.set es x, h.mf, h.k4, h.ml⟩
end
theorem or_bit (x i : Nat) (hx : x < 18446744073709551616) (hi : i < 64) : bits .or .u64 (x : Int) (IntKind.u64.wrap (2 ^ i)) = ((x ||| 2 ^ i : Nat) : Int) := by
  have hp : 2 ^ i < 18446744073709551616 := (Nat.pow_lt_pow_right (by omega) hi : 2 ^ i < 2 ^ 64)
  have e : (2 : Int) ^ i = ((2 ^ i : Nat) : Int) := by push_cast; rfl
  have e2 : IntKind.u64.wrap ((2 : Int) ^ i) = ((2 ^ i : Nat) : Int) := by
    rw [e]
    generalize 2 ^ i = P at *
    rw [IntKind.wrap_u64]; omega
  rw [e2, bits_or_u64_nat _ _ hx hp]
/-- All kinds that turn. -/
abbrev K4 : List (Option TypeId) := [none, some 248, some 288, some 300]
theorem xor_max (x : Nat) (hx : x < 18446744073709551616) : bits .xor .u64 IntKind.u64.max (x : Int) = ((18446744073709551615 - x : Nat) : Int) := by
  have h1 : (BitVec.ofInt 64 (x : Int)).toNat = x := by
    rw [BitVec.ofInt_natCast, BitVec.toNat_ofNat]; exact Nat.mod_eq_of_lt (by omega)
  have h2 : BitVec.ofInt 64 IntKind.u64.max = BitVec.allOnes 64 := by decide +kernel
  have h3 : (BitVec.allOnes 64 ^^^ BitVec.ofInt 64 (x : Int)).toNat = 2 ^ 64 - 1 - x := by rw [BitVec.allOnes_xor, BitVec.toNat_not, h1]
  have h4 : ∀ M : Int, bits .xor .u64 M (x : Int) = IntKind.u64.wrap ((BitVec.ofInt 64 M ^^^ BitVec.ofInt 64 (x : Int)).toNat : Int) := fun M => rfl
  rw [h4, h2, h3, IntKind.wrap_u64]
  omega
/-- What Take does. -/
inductive TkS (N0 : Nat) (c z : Nat) (ly : Ly) (sz : Int) (m : Nat) (bs : List Nat) (ss : List Sl) (mn lw hi : Int) (k : Nat) (nb fm tm : Nat → Nat) (nd : Nat → Nd) (fr : Nat → List Nat) (x : Int) (u : Bool) (e : Nat → Addr) (w : World) : Ending → World → Prop
  | no (a : Nat) (w' : World) (ha : a < 10) (hp : PS N0 w' c z ly sz m bs ss mn lw hi k nb fm tm nd fr) (hc : Chg K4 N0 w w')
    (hr : (a = 1 ∧ ¬ (0 ≤ x ∧ x < k)) ∨ ∃ x' : Nat, x = x' ∧ x' < k ∧ (bst m x' ss ss.length).1 = none ∧ (fr x').find? (fun i => tkC 0 mn u (nd i) == 2) = none ∧ a = if (fr x').any (fun i => tkC 0 mn u (nd i) == 1) then 6 else 4) :
    TkS N0 c z ly sz m bs ss mn lw hi k nb fm tm nd fr x u e w (.returned (.tuple #[objV 0 0, errV (e a)])) w'
  | old (x' j : Nat) (s : Sl) (w' : World) (hx : x = x') (hx' : x' < k) (hb : (bst m x' ss ss.length).1 = some j) (hs : ss[j]? = some s)
    (hp : PS N0 w' c z ly sz m bs (ss.set j { s with bm := s.bm ||| 2 ^ ff s.bm }) mn lw hi k nb fm tm nd fr) (hc : Chg K4 N0 w w') :
    TkS N0 c z ly sz m bs ss mn lw hi k nb fm tm nd fr x u e w (.returned (.tuple #[objV s.nd (s.at_ * 64 + ff s.bm * sz), .nilIface])) w'
  | new (x' i b q : Nat) (a : Int) (w' : World) (hx : x = x') (hx' : x' < k) (hb : (bst m x' ss ss.length).1 = none) (hf : (fr x').find? (fun i => tkC 0 mn u (nd i) == 2) = some i) (hik : i < k) (ha : a = tkA 0 (nd i)) (hq : Pos ss i a q)
    (hp : PS N0 w' c z ly sz m (Sb.ins bs q b) (Sb.ins ss q ⟨i, a, 1⟩) mn lw hi k nb fm tm (up nd i (tkN 0 (nd i))) fr) (hc : Chg K4 N0 w w') :
    TkS N0 c z ly sz m bs ss mn lw hi k nb fm tm nd fr x u e w (.returned (.tuple #[objV i (a * 64), .nilIface])) w'
theorem ins_set {α : Type} {l : List α} {q : Nat} {x y : α} (hq : q ≤ l.length) : (Sb.ins l q x).set q y = Sb.ins l q y := by
  apply List.ext_getElem?
  intro i
  rw [List.getElem?_set, ins_get _ hq, ins_get _ hq, ins_length]
  by_cases h : q = i
  · subst h; simp; omega
  · rw [if_neg h]
    by_cases h1 : i < q
    · rw [if_pos h1, if_pos h1]
    · rw [if_neg h1, if_neg h1, if_neg (Ne.symm h), if_neg (Ne.symm h)]
theorem ff_zero : ff 0 = 0 := by
  obtain ⟨_, _, h⟩ := ff_spec (x := 0) (m := 1) (by decide) (by decide) (by decide)
  rcases Nat.eq_zero_or_pos (ff 0) with h0 | h0
  · exact h0
  · have := h 0 h0
    simp at this
end Sb
end Go.Proofs.YtcbmfakjfoggaaaGreatDoor
