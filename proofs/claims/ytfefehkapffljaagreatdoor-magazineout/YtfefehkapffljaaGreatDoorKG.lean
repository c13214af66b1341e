/- The cache's slabs are pages that are taken in the zone; both in one memory · Package slab's Take, by contract. -/
import Derived.Test.YtfefehkapffljaaGreatDoorKE
import Derived.Test.YtfefehkapffljaaGreatDoorKF
import Derived.Test.YtfefehkapffljaaGreatDoorGW
import Derived.Laws.BitsAllLaws
namespace Go.Proofs.YtfefehkapffljaaGreatDoor
open Go.RowKit Go.Maps
namespace Sb
open Fr Bd Zn Dz
/-- Each slab's page is taken. -/
def Ow (k : Nat) (nd : Nat → Nd) (ss : List Sl) : Prop := ∀ s ∈ ss, s.nd < k ∧ (s.at_, 0) ∈ (nd s.nd).T
theorem tk_page {mn : Int} {u : Bool} {d : Nd} (hok : d.ok) (h : tkC 0 mn u d = 2) : 0 ≤ tkA 0 d ∧ tkA 0 d < 256 ∧ (∀ t ∈ d.T, t.1 ≠ tkA 0 d) ∧ (tkA 0 d, 0) ∈ (tkN 0 d).T ∧ ∀ t ∈ d.T, t ∈ (tkN 0 d).T := by
  cases hf : fit 0 d.F with
  | none => simp [tkC, hf] at h
  | some y =>
    have e1 : tkA 0 d = y.1 := by simp [tkA, hf]
    have e2 : (tkN 0 d).T = Bd.ins (y.1, 0) d.T := by simp [tkN, hf]
    obtain ⟨hy, hy2⟩ := fit_some hf
    have hin := hok.2.2.inF hy
    have hpw := pw_pos y.2
    have hno : ∀ t ∈ d.T, t.1 ≠ y.1 := fun t ht e => by
      have := (hok.2.2.outF hy).offT ht
      omega
    rw [e1, e2]
    exact ⟨hin.1, by have := hok.2.1; omega, hno, mem_ins_self _ _, fun t ht => mem_ins_other ht (hno t ht)⟩
theorem Ow.fresh {k : Nat} {nd : Nat → Nd} {ss : List Sl} (h : Ow k nd ss) {mn : Int} {u : Bool} {i : Nat} (hok : (nd i).ok) (ht : tkC 0 mn u (nd i) = 2) : ∀ s ∈ ss, s.nd = i → s.at_ ≠ tkA 0 (nd i) := fun s hs e he => by
  have := (h s hs).2
  rw [e] at this
  exact (tk_page hok ht).2.2.1 _ this he
theorem Ow.take {k : Nat} {nd : Nat → Nd} {ss : List Sl} (h : Ow k nd ss) {mn : Int} {u : Bool} {i : Nat} (_hi : i < k) (hok : (nd i).ok) (ht : tkC 0 mn u (nd i) = 2) : Ow k (up nd i (tkN 0 (nd i))) ss := fun s hs => by
  refine ⟨(h s hs).1, ?_⟩
  by_cases e : s.nd = i
  · rw [e, up_at]
    have := (h s hs).2
    rw [e] at this
    exact (tk_page hok ht).2.2.2.2 _ this
  · rw [up_ne _ _ e]; exact (h s hs).2
theorem Ow.ins {k : Nat} {nd : Nat → Nd} {ss : List Sl} (h : Ow k nd ss) {x : Sl} (hx : x.nd < k ∧ (x.at_, 0) ∈ (nd x.nd).T) (q : Nat) : Ow k nd (Sb.ins ss q x) := fun s hs => by
  rcases ins_mem.mp hs with rfl | h'
  · exact hx
  · exact h s h'
theorem Ow.set {k : Nat} {nd : Nat → Nd} {ss : List Sl} (h : Ow k nd ss) {j : Nat} {s : Sl} (hs : ss[j]? = some s) (b : Nat) : Ow k nd (ss.set j { s with bm := b }) := fun s' hs' => by
  rcases List.mem_or_eq_of_mem_set hs' with h1 | rfl
  · exact h s' h1
  · exact h s (List.mem_of_getElem? hs)
/-- A zone and a cache on it. -/
structure PS (N0 : Nat) (w : World) (c z : Nat) (ly : Ly) (sz : Int) (m : Nat) (bs : List Nat) (ss : List Sl) (mn lw hi : Int) (k : Nat) (nb fm tm : Nat → Nat) (nd : Nat → Nd) (fr : Nat → List Nat) : Prop where
  d : DZ w z mn lw hi k nb fm tm nd fr
  c : DC N0 w c z ly sz m bs ss
  ow : Ow k nd ss
  mf : ∀ i, i < k → N0 ≤ fm i ∧ N0 ≤ tm i
  k4 : k ≤ 20
  ml : ∀ i, i < k → ly.1 ≠ fm i ∧ ly.1 ≠ tm i
section
variable {N0 : Nat} {w w' : World} {c z : Nat} {ly : Ly} {sz : Int} {m : Nat} {bs : List Nat} {ss : List Sl} {mn lw hi : Int} {k : Nat} {nb fm tm : Nat → Nat} {nd : Nat → Nd} {fr : Nat → List Nat}
theorem PS.b (h : PS N0 w c z ly sz m bs ss mn lw hi k nb fm tm nd fr) (hb : Below w.heap.size w w') : PS N0 w' c z ly sz m bs ss mn lw hi k nb fm tm nd fr := ⟨h.d.b hb, h.c.b hb, h.ow, h.mf, h.k4, h.ml⟩
/-- No more slabs than pages. -/
theorem sl_len (h : PS N0 w c z ly sz m bs ss mn lw hi k nb fm tm nd fr) : ss.length ≤ 10000 := by
  have hs := h.c.so
  have hok := h.c.ok
  have ho := h.ow
  have hk := h.k4
  let f : Sl → Int × Int := fun s => ((s.nd : Int) * 256 + s.at_, 0)
  have hp : Srt (ss.map f) := by
    unfold Srt
    rw [List.pairwise_map]
    refine List.Pairwise.imp_of_mem (fun ha hb hl => ?_) hs
    have h1 := hok _ ha
    have h2 := hok _ hb
    unfold sok at h1 h2
    unfold lt at hl
    simp only [f]
    omega
  have := srt_len (l := ss.map f) (a := 0) (b := 256 * 20) hp (fun x hx => by
    obtain ⟨s, hs', rfl⟩ := List.mem_map.1 hx
    have h1 := hok s hs'
    have h2 := (ho s hs').1
    unfold sok at h1
    simp only [f]
    omega)
  rw [List.length_map] at this
  omega
end
end Sb
end Go.Proofs.YtfefehkapffljaaGreatDoor
namespace Go.Proofs.YtfefehkapffljaaGreatDoor
open Go.RowKit Go.Maps
namespace Sb
open Fr Bd Zn Dz
/-- A box of an object. -/
structure Rx (w : World) (r : Nat) (u v : Value) : Prop where
  c0 : w.cell? ⟨r, 0, none⟩ = some u
  c1 : w.cell? ⟨r, 1, none⟩ = some v
  fz : ∀ o, w.frozen? ⟨r, o, none⟩ = false
  tg : Tag w r 42
theorem Rx.blk {w w' : World} {r : Nat} {u v : Value} (h : Rx w r u v) (hb : w'.heap[r]? = w.heap[r]?) : Rx w' r u v :=
  ⟨(World.cell?_of_block (a := ⟨r, 0, none⟩) hb).trans h.c0, (World.cell?_of_block (a := ⟨r, 1, none⟩) hb).trans h.c1, fun o => (World.frozen?_of_block (a := ⟨r, o, none⟩) hb).trans (h.fz o), h.tg.blk hb⟩
theorem Rx.b {w w' : World} {r : Nat} {u v : Value} (h : Rx w r u v) (hb : Below w.heap.size w w') : Rx w' r u v := h.blk (hb.block r h.tg.lt)
theorem Rx.c {ts : List (Option TypeId)} {N : Nat} {w w' : World} {r : Nat} {u v : Value} (h : Rx w r u v) (hc : Chg ts N w w') (hn : some 42 ∉ ts) : Rx w' r u v := h.blk (hc.same h.tg hn)
theorem rx_new (w : World) : Rx (w.alloc (.cells #[.int .i64 0, .int .i64 0] 42)) w.heap.size (.int .i64 0) (.int .i64 0) := by
  have q := World.cell?_alloc_new w #[.int .i64 0, .int .i64 0] 42
  exact ⟨q 0, q 1, fun o => World.frozen?_alloc_at _ _ w.heap.size o rfl, tag_new _ _ _⟩
theorem below_set2 {w W : World} {r : Nat} (h : Below w.heap.size w W) (hr : w.heap.size ≤ r) (u v : Value) : Below w.heap.size w ((W.setCell ⟨r, 0, none⟩ u).setCell ⟨r, 1, none⟩ v) := (h.setCell hr u).setCell hr v
theorem set2_far {W : World} {r : Nat} {p : Addr} {x : Value} (h : W.cell? p = some x) (hne : p.block ≠ r) (u v : Value) : ((W.setCell ⟨r, 0, none⟩ u).setCell ⟨r, 1, none⟩ v).cell? p = some x :=
  (cso (fun e => hne (by rw [← e]))).trans ((cso (fun e => hne (by rw [← e]))).trans h)
theorem set2_at {W : World} {r : Nat} {a b : Value} (h0 : W.cell? ⟨r, 0, none⟩ = some a) (h1 : W.cell? ⟨r, 1, none⟩ = some b) (u v : Value) : ((W.setCell ⟨r, 0, none⟩ u).setCell ⟨r, 1, none⟩ v).cell? ⟨r, 0, none⟩ = some u ∧ ((W.setCell ⟨r, 0, none⟩ u).setCell ⟨r, 1, none⟩ v).cell? ⟨r, 1, none⟩ = some v :=
  ⟨(cso (by simp)).trans (css h0), css ((cso (by simp)).trans h1)⟩
theorem Chg.fresh {ts : List (Option TypeId)} {N : Nat} {w w' : World} (h : Chg ts N w w') {r : Nat} (hr : w.heap.size ≤ r) (o : Nat) (v : Value) : Chg ts N w (w'.setCell ⟨r, o, none⟩ v) :=
  ⟨h.os, h.tape, h.output, Nat.le_trans h.size (by simp [World.setCell]), fun k hk => by
    rw [Below.heap_setCell _ _ _ _ (by simp only; omega)]
    exact h.blk k hk⟩
theorem Chg.drew {ts : List (Option TypeId)} {N : Nat} {w w' : World} (h : Chg ts N w w') : Chg ts N w w'.drew := ⟨h.os, h.tape, h.output, h.size, h.blk⟩
section
variable {N0 : Nat} {w w' : World} {c z : Nat} {ly : Ly} {sz : Int} {m : Nat} {bs : List Nat} {ss : List Sl} {mn lw hi : Int} {k : Nat} {nb fm tm : Nat → Nat} {nd : Nat → Nd} {fr : Nat → List Nat}
theorem PS.chg (h : PS N0 w c z ly sz m bs ss mn lw hi k nb fm tm nd fr) {ts : List (Option TypeId)} {N : Nat} (hc : Chg ts N w w') (h0 : none ∉ ts) (h1 : ∀ t ∈ ([106, 107, 22, 3, 188] : List TypeId), some t ∉ ts) (h2 : ∀ t ∈ ([114, 116, 124] : List TypeId), some t ∉ ts) : PS N0 w' c z ly sz m bs ss mn lw hi k nb fm tm nd fr :=
  ⟨dz_chg h.d hc h0 h1, h.c.same (hc.toSame h2) (hc.ly h0 h.c.ym), h.ow, h.mf, h.k4, h.ml⟩
theorem PS.rx (h : PS N0 w c z ly sz m bs ss mn lw hi k nb fm tm nd fr) {r : Nat} {a b : Value} (hr : Rx w r a b) (u v : Value) : PS N0 ((w.setCell ⟨r, 0, none⟩ u).setCell ⟨r, 1, none⟩ v) c z ly sz m bs ss mn lw hi k nb fm tm nd fr :=
  h.chg ((Chg.set hr.tg (Nat.zero_le _) 0 u).trans (Chg.set (hr.tg.set _ _) (Nat.zero_le _) 1 v)) (by decide) (by decide) (by decide)
/-- A slab's bits turn. -/
theorem PS.bit (h : PS N0 w c z ly sz m bs ss mn lw hi k nb fm tm nd fr) {j b : Nat} {s : Sl} (eb : bs[j]? = some b) (es : ss[j]? = some s) {x : Nat} (hx : x < 2 ^ m) : PS N0 (w.setCell ⟨b, 3, none⟩ (.int .u64 x)) c z ly sz m bs (ss.set j { s with bm := x }) mn lw hi k nb fm tm nd fr := by
  have hS := h.c.sl j b s eb es
  have hc : Chg [some 124] 0 w (w.setCell ⟨b, 3, none⟩ (.int .u64 x)) := Chg.set hS.tg (Nat.zero_le _) 3 _
  have hk : Kept b b w (w.setCell ⟨b, 3, none⟩ (.int .u64 x)) := ⟨rfl, rfl, rfl, by simp [World.setCell], fun i _ h1 _ => Below.heap_setCell _ _ _ _ h1⟩
  exact ⟨dz_chg h.d hc (by decide) (by decide), h.c.turn eb es x hx hk ⟨(cso (by simp)).trans hS.c0, (cso (by simp)).trans hS.c1, (cso (by simp)).trans hS.c2, css hS.c3, hS.tg.set _ _, fun o => by rw [World.frozen?_setCell]; exact hS.fz o⟩, h.ow.set es x, h.mf, h.k4, h.ml⟩
end
theorem or_bit (x i : Nat) (hx : x < 18446744073709551616) (hi : i < 64) : bits .or .u64 (x : Int) (IntKind.u64.wrap (2 ^ i)) = ((x ||| 2 ^ i : Nat) : Int) := by
  have hp : 2 ^ i < 18446744073709551616 := (Nat.pow_lt_pow_right (by omega) hi : 2 ^ i < 2 ^ 64)
  have e : (2 : Int) ^ i = ((2 ^ i : Nat) : Int) := by push_cast; rfl
  have e2 : IntKind.u64.wrap ((2 : Int) ^ i) = ((2 ^ i : Nat) : Int) := by
    rw [e]
    generalize 2 ^ i = P at *
    rw [IntKind.wrap_u64]; omega
  rw [e2, bits_or_u64_nat _ _ hx hp]
/-- All kinds that turn. -/
abbrev K4 : List (Option TypeId) := [none, some 114, some 116, some 124]
theorem xor_max (x : Nat) (hx : x < 18446744073709551616) : bits .xor .u64 IntKind.u64.max (x : Int) = ((18446744073709551615 - x : Nat) : Int) := by
  have h1 : (BitVec.ofInt 64 (x : Int)).toNat = x := by
    rw [BitVec.ofInt_natCast, BitVec.toNat_ofNat]; exact Nat.mod_eq_of_lt (by omega)
  have h2 : BitVec.ofInt 64 IntKind.u64.max = BitVec.allOnes 64 := by decide +kernel
  have h3 : (BitVec.allOnes 64 ^^^ BitVec.ofInt 64 (x : Int)).toNat = 2 ^ 64 - 1 - x := by rw [BitVec.allOnes_xor, BitVec.toNat_not, h1]
  have h4 : ∀ M : Int, bits .xor .u64 M (x : Int) = IntKind.u64.wrap ((BitVec.ofInt 64 M ^^^ BitVec.ofInt 64 (x : Int)).toNat : Int) := fun M => rfl
  rw [h4, h2, h3, IntKind.wrap_u64]
  omega
/-- What Take does. -/
inductive TkS (N0 : Nat) (c z : Nat) (ly : Ly) (sz : Int) (m : Nat) (bs : List Nat) (ss : List Sl) (mn lw hi : Int) (k : Nat) (nb fm tm : Nat → Nat) (nd : Nat → Nd) (fr : Nat → List Nat) (x : Int) (u : Bool) (e : Nat → Addr) (w : World) : Ending → World → Prop
  | no (a : Nat) (w' : World) (ha : a < 10) (hp : PS N0 w' c z ly sz m bs ss mn lw hi k nb fm tm nd fr) (hc : Chg K4 N0 w w')
    (hr : (a = 1 ∧ ¬ (0 ≤ x ∧ x < k)) ∨ ∃ x' : Nat, x = x' ∧ x' < k ∧ (bst m x' ss ss.length).1 = none ∧ (fr x').find? (fun i => tkC 0 mn u (nd i) == 2) = none ∧ a = if (fr x').any (fun i => tkC 0 mn u (nd i) == 1) then 6 else 4) :
    TkS N0 c z ly sz m bs ss mn lw hi k nb fm tm nd fr x u e w (.returned (.tuple #[objV 0 0, errV (e a)])) w'
  | old (x' j : Nat) (s : Sl) (w' : World) (hx : x = x') (hx' : x' < k) (hb : (bst m x' ss ss.length).1 = some j) (hs : ss[j]? = some s)
    (hp : PS N0 w' c z ly sz m bs (ss.set j { s with bm := s.bm ||| 2 ^ ff s.bm }) mn lw hi k nb fm tm nd fr) (hc : Chg K4 N0 w w') :
    TkS N0 c z ly sz m bs ss mn lw hi k nb fm tm nd fr x u e w (.returned (.tuple #[objV s.nd (s.at_ * 64 + ff s.bm * sz), .nilIface])) w'
  | new (x' i b q : Nat) (a : Int) (w' : World) (hx : x = x') (hx' : x' < k) (hb : (bst m x' ss ss.length).1 = none) (hf : (fr x').find? (fun i => tkC 0 mn u (nd i) == 2) = some i) (hik : i < k) (ha : a = tkA 0 (nd i)) (hq : Pos ss i a q)
    (hp : PS N0 w' c z ly sz m (Sb.ins bs q b) (Sb.ins ss q ⟨i, a, 1⟩) mn lw hi k nb fm tm (up nd i (tkN 0 (nd i))) fr) (hc : Chg K4 N0 w w') :
    TkS N0 c z ly sz m bs ss mn lw hi k nb fm tm nd fr x u e w (.returned (.tuple #[objV i (a * 64), .nilIface])) w'
theorem ins_set {α : Type} {l : List α} {q : Nat} {x y : α} (hq : q ≤ l.length) : (Sb.ins l q x).set q y = Sb.ins l q y := by
  apply List.ext_getElem?
  intro i
  rw [List.getElem?_set, ins_get _ hq, ins_get _ hq, ins_length]
  by_cases h : q = i
  · subst h; simp; omega
  · rw [if_neg h]
    by_cases h1 : i < q
    · rw [if_pos h1, if_pos h1]
    · rw [if_neg h1, if_neg h1, if_neg (Ne.symm h), if_neg (Ne.symm h)]
theorem ff_zero : ff 0 = 0 := by
  obtain ⟨_, _, h⟩ := ff_spec (x := 0) (m := 1) (by decide) (by decide) (by decide)
  rcases Nat.eq_zero_or_pos (ff 0) with h0 | h0
  · exact h0
  · have := h 0 h0
    simp at this
set_option maxRecDepth 100000 in
set_option maxHeartbeats 16000000 in
theorem stake_ok (N0 : Nat) (c z : Nat) (ly : Ly) (sz : Int) (m : Nat) (bs : List Nat) (ss : List Sl) (mn lw hi : Int) (k : Nat) (nb fm tm : Nat → Nat) (nd : Nat → Nd) (fr : Nat → List Nat) (x : Int) (u : Bool) (e : Nat → Addr) (w0 w : World) (he0 : Errs w0 e) (hb0 : Below w0.heap.size w0 w) (hN0 : w0.heap.size ≤ N0) (h : PS N0 w c z ly sz m bs ss mn lw hi k nb fm tm nd fr) :
    Calls Tryz.prog 16 #[ptr c, .int .i64 x, .bool u] w fun ev w' => TkS N0 c z ly sz m bs ss mn lw hi k nb fm tm nd fr x u e w ev w' := by
  have he := he0.below hb0
  have HEC : Hid (∀ w', Chg K4 N0 w w' → Errs w' e) := fun w' hc => errs_chg he0 hb0 hc hN0
  have F1 := ballo (Below.refl w.heap.size w) (.cells #[.int .i64 0, .int .i64 0] 42)
  have R1 := rx_new w
  have P1 := h.b F1
  have HCH := hide (chas_ok c z mn lw hi k nb fm tm nd fr x _ e (he.below F1).three P1.d P1.c.c0)
  have HE := hide he
  have HP1 := hide P1
  have HF1 := hide F1
  have HR1 := hide R1
  have lcN := P1.c.ge
  have RN : Hid (∀ a w', a < 10 → PS N0 w' c z ly sz m bs ss mn lw hi k nb fm tm nd fr → Chg K4 N0 w w' → ((a = 1 ∧ ¬ (0 ≤ x ∧ x < k)) ∨ ∃ x' : Nat, x = x' ∧ x' < k ∧ (bst m x' ss ss.length).1 = none ∧ (fr x').find? (fun i => tkC 0 mn u (nd i) == 2) = none ∧ a = if (fr x').any (fun i => tkC 0 mn u (nd i) == 1) then 6 else 4) → TkS N0 c z ly sz m bs ss mn lw hi k nb fm tm nd fr x u e w (.returned (.tuple #[objV 0 0, errV (e a)])) w') := fun a w' h1 h2 h3 h4 => .no a w' h1 h2 h3 h4
  have RO : Hid (∀ x' j s w', x = (x' : Nat) → x' < k → (bst m x' ss ss.length).1 = some j → ss[j]? = some s → PS N0 w' c z ly sz m bs (ss.set j { s with bm := s.bm ||| 2 ^ ff s.bm }) mn lw hi k nb fm tm nd fr → Chg K4 N0 w w' → TkS N0 c z ly sz m bs ss mn lw hi k nb fm tm nd fr x u e w (.returned (.tuple #[objV s.nd (s.at_ * 64 + ff s.bm * sz), .nilIface])) w') := fun x' j s w' h1 h2 h3 h4 h5 h6 => .old x' j s w' h1 h2 h3 h4 h5 h6
  have RW : Hid (∀ (x' i b q : Nat) (a : Int) w', x = (x' : Nat) → x' < k → (bst m x' ss ss.length).1 = none → (fr x').find? (fun i => tkC 0 mn u (nd i) == 2) = some i → i < k → a = tkA 0 (nd i) → Pos ss i a q → PS N0 w' c z ly sz m (Sb.ins bs q b) (Sb.ins ss q ⟨i, a, 1⟩) mn lw hi k nb fm tm (up nd i (tkN 0 (nd i))) fr → Chg K4 N0 w w' → TkS N0 c z ly sz m bs ss mn lw hi k nb fm tm nd fr x u e w (.returned (.tuple #[objV i (a * 64), .nilIface])) w') := fun x' i b q a w' h1 h2 h3 h4 h5 h6 h7 h8 h9 => .new x' i b q a w' h1 h2 h3 h4 h5 h6 h7 h8 h9
  clear he h F1 R1 P1 he0 hb0
  generalize TkS N0 c z ly sz m bs ss mn lw hi k nb fm tm nd fr x u e w = TR at *
  unfold ptr at *
  go_enter Tryz.func16, Tryz.ntmps16
  go_upto_region 1 with (fail)
  generalize hW : w.alloc (.cells #[.int .i64 0, .int .i64 0] 42) = W at *
  go_wp2_with fail
  refine (unhide HCH).mono ?_
  rintro ev w1 ⟨rfl, b1⟩
  have F2 := btr (unhide HF1) b1
  have P2 := (unhide HP1).b b1
  have R2 := (unhide HR1).b b1
  clear HCH HF1 HP1 HR1
  by_cases hx : 0 ≤ x ∧ x < k
  · rw [show decide (0 ≤ x ∧ x < k) = true by simpa using hx]
    obtain ⟨x', rfl⟩ := Int.eq_ofNat_of_zero_le hx.1
    have hxk : x' < k := by omega
    have hml := P2.c.mle
    have HFU := hide (full_ok N0 c z ly sz m bs ss x' w1 P2.c (sl_len P2))
    cases hb : (bst m x' ss ss.length).1 with
    | some j =>
      obtain ⟨hj, hnd, hpop⟩ := bst_some hb
      obtain ⟨b, s, eb, es, hS, hok⟩ := P2.c.slab hj
      rw [getD_at es] at hpop
      have hbv : bestV bs (some j) = .pointer (some ⟨b, 0, none⟩) := by simp only [bestV, getD_at eb]; rfl
      rw [hb, hbv] at HFU
      have HRES : Hid (∀ w', PS N0 w' c z ly sz m bs (ss.set j { s with bm := s.bm ||| 2 ^ ff s.bm }) mn lw hi k nb fm tm nd fr → Chg K4 N0 w w' → TR (.returned (.tuple #[objV s.nd (s.at_ * 64 + ff s.bm * sz), .nilIface])) w') := fun w' h1 h2 => (unhide RO) x' j s w' rfl hxk hb es h1 h2
      obtain ⟨hf1, hf2, hf3⟩ := ff_spec hok.2.2.1 hml.2 hpop
      obtain ⟨X, hX⟩ : ∃ X, X = 18446744073709551615 - s.bm := ⟨_, rfl⟩
      have HCT : Hid (Calls Tryz.prog 58 #[.int .u64 (X : Int)] w1 fun e w' => e = .returned (.int .i64 (ff s.bm)) ∧ w' = w1) := by
        have hff : ff s.bm = Lib.ctz 64 X := by rw [hX]; rfl
        rw [hff]
        exact ctz_ok X (by omega) w1 e ((unhide HE).below F2)
      have HXO : Hid (bits .xor .u64 (if IntKind.u64.signed = true then -1 else IntKind.u64.max) (s.bm : Int) = (X : Int)) := by
        rw [show (if IntKind.u64.signed = true then (-1 : Int) else IntKind.u64.max) = IntKind.u64.max from rfl, hX]; exact xor_max s.bm (pow_le64 hok.2.2.1 hml.2)
      clear hX
      have c3 := hS.c3
      have f3 := hS.fz 3
      have HP := hide P2
      have HR := hide R2
      have HC : Hid (Chg K4 N0 w w1) := Chg.below F2
      have HS := hide hS
      have HOK := hide hok
      have HEB := hide eb
      have HES := hide es
      clear P2 R2 F2 hS hok hb hbv RN RO RW eb es b1 hf2 hf3 hpop hnd
      go_wp2_with (first | (go_at_call 56; refine (unhide HFU).mono ?_; rintro ev w2 ⟨rfl, rfl⟩) | (go_at_call 58; rw [unhide HXO]; refine (unhide HCT).mono ?_; rintro ev w2 ⟨rfl, rfl⟩))
      have hi63 : ff s.bm < 64 := by omega
      have hbx : s.bm < 2 ^ m := (unhide HOK).2.2.1
      have hor := or_bit s.bm (ff s.bm) (pow_le64 hbx hml.2) hi63
      generalize ff s.bm = fi at *
      have hnw : s.bm ||| 2 ^ fi < 2 ^ m := set_lt hbx hf1
      generalize hnb : s.bm ||| 2 ^ fi = nbm at *
      go_region
      have hne : b ≠ w.heap.size := (unhide HS).tg.ne (unhide HR).tg (by decide)
      have HP5 := hide (((unhide HP).bit (unhide HEB) (unhide HES) hnw).b (drw _))
      have HC5 : Hid (Chg K4 N0 w (w2.setCell ⟨b, 3, none⟩ (.int .u64 (nbm : Int))).drew) := ((unhide HC).trans ((Chg.set (unhide HS).tg ((unhide HP).c.bg b (List.mem_of_getElem? (unhide HEB))) 3 _).mono (by decide) (Nat.le_refl _))).drew
      have HR5 := hide ((unhide HR).c (Chg.set (N := 0) (unhide HS).tg (Nat.zero_le _) 3 (.int .u64 (nbm : Int))).drew (by decide))
      have HS5 : Hid (SLm (w2.setCell ⟨b, 3, none⟩ (.int .u64 (nbm : Int))).drew b { s with bm := nbm }) := (unhide HP5).c.sl j b _ (unhide HEB) (by rw [List.getElem?_set_self (by exact hj)])
      generalize (w2.setCell ⟨b, 3, none⟩ (.int .u64 (nbm : Int))).drew = W5 at *
      have HOB := hide (obj_ok c b sz s.nd s.at_ fi W5 (unhide HS5).c0 (unhide HS5).c1 (unhide HP5).c.c1 ⟨(unhide HOK).1, (unhide HOK).2.1⟩ ⟨(unhide HP5).c.mm.1, (unhide HP5).c.mm.2.1⟩ ⟨by omega, by omega⟩)
      clear hor hbx hnb HP HC HR HS HCT HFU c3 f3
      unfold ptr objV at *
      go_wp2_with (go_at_call 52; refine (unhide HOB).mono ?_; rintro ev w6 ⟨rfl, b6⟩; obtain ⟨r0, r1, rfz, _⟩ := (unhide HR5).b b6; have f0 := rfz 0; have f1 := rfz 1)
      obtain ⟨t0, t1⟩ := set2_at r0 r1 (.int .i64 (s.nd : Int)) (.int .i64 (s.at_ * 64 + (fi : Int) * sz))
      refine bodyPost_ret (v := .tuple #[.agg #[.int .i64 s.nd, .int .i64 (s.at_ * 64 + (fi : Int) * sz)], .nilIface]) (by simp [results, Tryz.results16, go_sem, t0, t1]; try rfl) rfl ?_
      exact (unhide HRES) _ (((unhide HP5).b b6).rx ((unhide HR5).b b6) _ _) ((((unhide HC5).trans (Chg.below b6)).fresh (Nat.le_refl _) 0 _).fresh (Nat.le_refl _) 1 _)
    | none =>
      have hbv : bestV bs none = .pointer none := rfl
      rw [hb, hbv] at HFU
      have hz0 := P2.c.c0
      have HZT := hide (ztake_any z mn lw hi k nb fm tm nd fr x' 0 u w1 e ((unhide HE).below F2) P2.d P2.k4)
      have HP := hide P2
      have HR := hide R2
      have HC : Hid (Chg K4 N0 w w1) := Chg.below F2
      have HF2 := hide F2
      have HB := hide hb
      clear P2 R2 F2 hb hbv RO b1
      unfold ptr at *
      go_wp2_with (first | (go_at_call 56; refine (unhide HFU).mono ?_; rintro ev w2 ⟨rfl, rfl⟩))
      refine (unhide HZT).mono ?_
      rintro ev w3 hT
      rcases hT with ⟨a, ha10, rfl, b3, hr⟩ | ⟨x2, i, at', hx2, hx2k, _, _, hfd, hik, hat, rfl, D3, K3⟩
      · have F4 := ballo (btr (unhide HF2) b3) (.cells #[.int .i64 0, .int .i64 0, .int .i64 0] 73)
        have P4 := ((unhide HP).b b3).b (ballo (Below.refl _ _) (.cells #[.int .i64 0, .int .i64 0, .int .i64 0] 73))
        have R4 := ((unhide HR).b b3).b (ballo (Below.refl _ _) (.cells #[.int .i64 0, .int .i64 0, .int .i64 0] 73))
        have hcond : (a = 1 ∧ ¬ (0 ≤ (x' : Int) ∧ (x' : Int) < k)) ∨ ∃ y : Nat, (x' : Int) = y ∧ y < k ∧ (bst m y ss ss.length).1 = none ∧ (fr y).find? (fun i => tkC 0 mn u (nd i) == 2) = none ∧ a = if (fr y).any (fun i => tkC 0 mn u (nd i) == 1) then 6 else 4 := by
          rcases hr with ⟨h1, h2 | h2 | h2⟩ | ⟨y, h1, h2, _, _, h3, h4⟩
          · exact absurd hx h2
          · omega
          · omega
          · obtain rfl : x' = y := by omega
            exact Or.inr ⟨x', rfl, hxk, unhide HB, h3, h4⟩
        have RES := hide (fun w' (hp : PS N0 w' c z ly sz m bs ss mn lw hi k nb fm tm nd fr) (hc : Chg K4 N0 w w') => (unhide RN) a w' ha10 hp hc hcond)
        have HP4 := hide P4
        have HR4 := hide R4
        have HF4 := hide F4
        clear P4 R4 F4 hcond hr HZT HFU HP HR HF2 HC b3 RN RW
        go_upto_region 6 with (fail)
        generalize w3.alloc (.cells #[.int .i64 0, .int .i64 0, .int .i64 0] 73) = W4 at *
        obtain ⟨r0, r1, rfz, _⟩ := unhide HR4
        have f0 := rfz 0
        have f1 := rfz 1
        unfold objV errV at *
        go_wp2
        obtain ⟨t0, t1⟩ := set2_at r0 r1 (.int .i64 0) (.int .i64 0)
        refine bodyPost_ret (v := .tuple #[.agg #[.int .i64 0, .int .i64 0], .iface 304 (.pointer (some (e a)))]) (by simp [results, Tryz.results16, go_sem, t0, t1]; try rfl) rfl ?_
        exact (unhide RES) _ ((unhide HP4).rx (unhide HR4) _ _) (((Chg.below (unhide HF4)).fresh (Nat.le_refl _) 0 _).fresh (Nat.le_refl _) 1 _)
      · obtain rfl : x' = x2 := by omega
        have hP := unhide HP
        have hmf := hP.mf i hik
        have hbd := hP.d.bd i hik
        have hC3 : Chg [none] N0 w2 w3 := Chg.maps K3 hbd.f hbd.t hmf.1 hmf.2
        have htk : tkC 0 mn u (nd i) = 2 := by
          have := List.find?_some hfd
          simpa using this
        have hokd := hP.d.ok i hik
        have hpg := tk_page hokd htk
        have hfresh := hP.ow.fresh hokd htk
        have hP3 : PS N0 w3 c z ly sz m bs ss mn lw hi k nb fm tm (up nd i (tkN 0 (nd i))) fr := ⟨D3, hP.c.same (hC3.toSame (by decide)) (K3.block _ hP.c.ym.lt (hP.ml i hik).1 (hP.ml i hik).2), hP.ow.take hik hokd htk, hP.mf, hP.k4, hP.ml⟩
        have hR3 := (unhide HR).c hC3 (by decide)
        have G4 := ballo (Below.refl w3.heap.size w3) (.cells #[.int .i64 (i : Int), .int .i64 at', .int .i64 0] 73)
        have hP4 := hP3.b G4
        have hR4 := hR3.b G4
        have hC4 : Chg K4 N0 w _ := ((unhide HC).trans (hC3.mono (by decide) (Nat.le_refl _))).trans (Chg.below G4)
        have hlen := sl_len hP
        rw [← hat] at hpg hfresh
        have HAD := hide (add_ok N0 c z ly sz m bs ss i at' _ hP4.c hfresh (by have := hP.k4; omega) ⟨hpg.1, hpg.2.1⟩ hlen)
        have q := World.cell?_alloc_new w3 #[.int .i64 (i : Int), .int .i64 at', .int .i64 0] 73
        have q0 := q 0
        have q1 := q 1
        have q2 := q 2
        simp only [List.getElem?_toArray, List.getElem?_cons_zero, List.getElem?_cons_succ] at q0 q1 q2
        have HRW : Hid (∀ b q w', Pos ss i at' q → PS N0 w' c z ly sz m (Sb.ins bs q b) (Sb.ins ss q ⟨i, at', 1⟩) mn lw hi k nb fm tm (up nd i (tkN 0 (nd i))) fr → Chg K4 N0 w w' → TR (.returned (.tuple #[objV i (at' * 64), .nilIface])) w') := fun b q w' h1 h2 h3 => (unhide RW) x' i b q at' w' rfl hxk (unhide HB) hfd hik hat h1 h2 h3
        have HIT : Hid ((at', 0) ∈ (up nd i (tkN 0 (nd i)) i).T) := by rw [up_at]; exact hpg.2.2.2.1
        have HAT : Hid (0 ≤ at' ∧ at' < 256) := ⟨hpg.1, hpg.2.1⟩
        have HP4 := hide hP4
        have HR4 := hide hR4
        have HC4 := hide hC4
        clear hP hmf hbd hC3 htk hokd hpg hfresh hP3 hR3 G4 hP4 hR4 hC4 q D3 K3 hfd hat HZT HFU HP HR HF2 HC RN RW hlen hx2 hx2k
        generalize up nd i (tkN 0 (nd i)) = nd' at *
        go_upto_region 6 with (fail)
        generalize w3.alloc (.cells #[.int .i64 (i : Int), .int .i64 at', .int .i64 0] 73) = W4 at *
        unfold ptr plV at *
        go_wp2_with fail
        refine (unhide HAD).mono ?_
        rintro ev w5 ⟨b, q, hev, hpos, _, hD5, hC5⟩
        obtain rfl : ev = .returned (.pointer (some ⟨b, 0, none⟩)) := hev
        have hP4 := unhide HP4
        obtain ⟨s, hs⟩ : ∃ s : Sl, s = ⟨i, at', 0⟩ := ⟨_, rfl⟩
        rw [← hs] at hD5
        have hP5 : PS N0 w5 c z ly sz m (Sb.ins bs q b) (Sb.ins ss q s) mn lw hi k nb fm tm nd' fr := ⟨dz_chg hP4.d hC5 (by decide) (by decide), hD5, hP4.ow.ins (by rw [hs]; exact ⟨hik, unhide HIT⟩) q, hP4.mf, hP4.k4, hP4.ml⟩
        have hql : q < (Sb.ins ss q s).length := by rw [ins_length]; have := hpos.1; omega
        have eb : (Sb.ins bs q b)[q]? = some b := by rw [ins_get _ (by rw [hP4.c.len]; exact hpos.1), if_neg (by omega), if_pos rfl]
        have es : (Sb.ins ss q s)[q]? = some s := by rw [ins_get _ hpos.1, if_neg (by omega), if_pos rfl]
        have hS := hD5.sl q b s eb es
        have hok := hD5.ok s (List.mem_of_getElem? es)
        have hpop : pop s.bm m < m := by rw [hs]; simp only; rw [pop_of_zero]; omega
        obtain ⟨hf1, hf2, hf3⟩ := ff_spec hok.2.2.1 hml.2 hpop
        have hC := (unhide HC4).trans (hC5.mono (by decide) (Nat.le_refl _))
        have HRES : Hid (∀ w', PS N0 w' c z ly sz m (Sb.ins bs q b) ((Sb.ins ss q s).set q { s with bm := s.bm ||| 2 ^ ff s.bm }) mn lw hi k nb fm tm nd' fr → Chg K4 N0 w w' → TR (.returned (.tuple #[objV s.nd (s.at_ * 64 + ff s.bm * sz), .nilIface])) w') := fun w' h1 h2 => by
          rw [ins_set hpos.1] at h1
          subst hs
          simp only [ff_zero] at h1 ⊢
          have e1 : (at' * 64 + ((0 : Nat) : Int) * sz) = at' * 64 := by simp
          rw [e1]
          exact (unhide HRW) b q w' hpos h1 h2
        obtain ⟨X, hX⟩ : ∃ X, X = 18446744073709551615 - s.bm := ⟨_, rfl⟩
        have HCT : Hid (Calls Tryz.prog 58 #[.int .u64 (X : Int)] w5 fun e w' => e = .returned (.int .i64 (ff s.bm)) ∧ w' = w5) := by
          have hff : ff s.bm = Lib.ctz 64 X := by rw [hX]; rfl
          rw [hff]
          exact ctz_ok X (by omega) w5 e ((unhide HEC) _ hC)
        have HXO : Hid (bits .xor .u64 (if IntKind.u64.signed = true then -1 else IntKind.u64.max) (s.bm : Int) = (X : Int)) := by
          rw [show (if IntKind.u64.signed = true then (-1 : Int) else IntKind.u64.max) = IntKind.u64.max from rfl, hX]; exact xor_max s.bm (pow_le64 hok.2.2.1 hml.2)
        clear hX
        have c3 := hS.c3
        have f3 := hS.fz 3
        have HP := hide hP5
        have HR := hide ((unhide HR4).c hC5 (by decide))
        have HC := hide hC
        have HS := hide hS
        have HOK := hide hok
        have HEB := hide eb
        have HES := hide es
        clear HAD hP4 hs hP5 eb es hS hok hpop hf2 hf3 hC hpos hD5 hC5 HRW HP4 HR4 HC4 HIT HAT q0 q1 q2
        go_wp2_with (first | (go_at_call 58; rw [unhide HXO]; refine (unhide HCT).mono ?_; rintro ev w2 ⟨rfl, rfl⟩))
        have hi63 : ff s.bm < 64 := by omega
        have hbx : s.bm < 2 ^ m := (unhide HOK).2.2.1
        have hor := or_bit s.bm (ff s.bm) (pow_le64 hbx hml.2) hi63
        generalize ff s.bm = fi at *
        have hnw : s.bm ||| 2 ^ fi < 2 ^ m := set_lt hbx hf1
        generalize hnb : s.bm ||| 2 ^ fi = nbm at *
        go_region
        have hne : b ≠ w.heap.size := (unhide HS).tg.ne (unhide HR).tg (by decide)
        have HP5 := hide (((unhide HP).bit (unhide HEB) (unhide HES) hnw).b (drw _))
        have HC5 : Hid (Chg K4 N0 w (w2.setCell ⟨b, 3, none⟩ (.int .u64 (nbm : Int))).drew) := ((unhide HC).trans ((Chg.set (unhide HS).tg ((unhide HP).c.bg b (List.mem_of_getElem? (unhide HEB))) 3 _).mono (by decide) (Nat.le_refl _))).drew
        have HR5 := hide ((unhide HR).c (Chg.set (N := 0) (unhide HS).tg (Nat.zero_le _) 3 (.int .u64 (nbm : Int))).drew (by decide))
        have HS5 : Hid (SLm (w2.setCell ⟨b, 3, none⟩ (.int .u64 (nbm : Int))).drew b { s with bm := nbm }) := (unhide HP5).c.sl q b _ (unhide HEB) (by rw [List.getElem?_set_self (by exact hql)])
        generalize (w2.setCell ⟨b, 3, none⟩ (.int .u64 (nbm : Int))).drew = W5 at *
        have HOB := hide (obj_ok c b sz s.nd s.at_ fi W5 (unhide HS5).c0 (unhide HS5).c1 (unhide HP5).c.c1 ⟨(unhide HOK).1, (unhide HOK).2.1⟩ ⟨(unhide HP5).c.mm.1, (unhide HP5).c.mm.2.1⟩ ⟨by omega, by omega⟩)
        clear hor hbx hnb HP HC HR HS HCT c3 f3
        unfold ptr objV at *
        go_wp2_with (go_at_call 52; refine (unhide HOB).mono ?_; rintro ev w6 ⟨rfl, b6⟩; obtain ⟨r0, r1, rfz, _⟩ := (unhide HR5).b b6; have f0 := rfz 0; have f1 := rfz 1)
        obtain ⟨t0, t1⟩ := set2_at r0 r1 (.int .i64 (s.nd : Int)) (.int .i64 (s.at_ * 64 + (fi : Int) * sz))
        refine bodyPost_ret (v := .tuple #[.agg #[.int .i64 s.nd, .int .i64 (s.at_ * 64 + (fi : Int) * sz)], .nilIface]) (by simp [results, Tryz.results16, go_sem, t0, t1]; try rfl) rfl ?_
        exact (unhide HRES) _ (((unhide HP5).b b6).rx ((unhide HR5).b b6) _ _) ((((unhide HC5).trans (Chg.below b6)).fresh (Nat.le_refl _) 0 _).fresh (Nat.le_refl _) 1 _)
  · rw [show decide (0 ≤ x ∧ x < k) = false by simpa using hx]
    have E2 := ((unhide HE).below F2).v1
    have l1 := World.block_lt_of_cell? w _ (unhide HE).v1
    simp only at l1
    have hPE := hide (P2.rx R2 (.int .i64 0) (.int .i64 0))
    have hCE := hide (((Chg.below F2 : Chg K4 N0 w w1).fresh (Nat.le_refl _) 0 (.int .i64 0)).fresh (Nat.le_refl _) 1 (.int .i64 0))
    have hq := set2_far (r := w.heap.size) E2 (by simp only; omega) (.int .i64 0) (.int .i64 0)
    obtain ⟨t0, t1⟩ := set2_at R2.c0 R2.c1 (.int .i64 0) (.int .i64 0)
    have r0 := R2.c0
    have r1 := R2.c1
    have f0 := R2.fz 0
    have f1 := R2.fz 1
    clear RO RW F2 P2 R2 b1
    go_wp2_with fail
    go_region
    all_goals
      go_wp2
      refine bodyPost_ret (v := .tuple #[.agg #[.int .i64 0, .int .i64 0], errV (e 1)]) (by simp [results, Tryz.results16, go_sem, t0, t1, errV]; try rfl) rfl ?_
      exact (unhide RN) 1 _ (by omega) ((unhide hPE).b (drw _)) (unhide hCE).drew (Or.inl ⟨rfl, hx⟩)
end Sb
end Go.Proofs.YtfefehkapffljaaGreatDoor
