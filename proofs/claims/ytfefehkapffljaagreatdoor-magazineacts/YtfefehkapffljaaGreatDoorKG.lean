/- K14 · K15 · K16 · K17. -/
import Derived.Test.YtfefehkapffljaaGreatDoorKD
import Derived.Test.YtfefehkapffljaaGreatDoorKF
import Derived.Test.YtfefehkapffljaaGreatDoorGW
import Derived.Laws.BitsAllLaws
import Derived.Test.YtfefehkapffljaaGreatDoorKZ
namespace Go.Proofs.YtfefehkapffljaaGreatDoor
open Go.RowKit Go.Maps
namespace Sb
open Fr Bd Zn Dz
def Ow (k : Nat) (nd : Nat → Nd) (ss : List Sl) : Prop := ∀ s ∈ ss, s.nd < k ∧ (s.at_, 0) ∈ (nd s.nd).T
theorem tk_page {mn : Int} {u : Bool} {d : Nd} (hok : d.ok) (h : tkC 0 mn u d = 2) : 0 ≤ tkA 0 d ∧ tkA 0 d < 256 ∧ (∀ t ∈ d.T, t.1 ≠ tkA 0 d) ∧ (tkA 0 d, 0) ∈ (tkN 0 d).T ∧ ∀ t ∈ d.T, t ∈ (tkN 0 d).T := by
 cases hf : fit 0 d.F with
 | none => simp [tkC, hf] at h
 | some y =>
   have e1 : tkA 0 d = y.1 := by simp [tkA, hf]
   have e2 : (tkN 0 d).T = Bd.ins (y.1, 0) d.T := by simp [tkN, hf]
   obtain ⟨hy, hy2⟩ := fit_some hf
   have hin := hok.2.2.inF hy
   have hpw := pw_pos y.2
   have hno : ∀ t ∈ d.T, t.1 ≠ y.1 := fun t ht e => by
     have := (hok.2.2.outF hy).offT ht
     omega
   rw [e1, e2]
   exact ⟨hin.1, by have := hok.2.1; omega, hno, mem_ins_self _ _, fun t ht => mem_ins_other ht (hno t ht)⟩
theorem Ow.fresh {k : Nat} {nd : Nat → Nd} {ss : List Sl} (h : Ow k nd ss) {mn : Int} {u : Bool} {i : Nat} (hok : (nd i).ok) (ht : tkC 0 mn u (nd i) = 2) : ∀ s ∈ ss, s.nd = i → s.at_ ≠ tkA 0 (nd i) := fun s hs e he => by
 have := (h s hs).2
 rw [e] at this
 exact (tk_page hok ht).2.2.1 _ this he
theorem Ow.take {k : Nat} {nd : Nat → Nd} {ss : List Sl} (h : Ow k nd ss) {mn : Int} {u : Bool} {i : Nat} (_hi : i < k) (hok : (nd i).ok) (ht : tkC 0 mn u (nd i) = 2) : Ow k (up nd i (tkN 0 (nd i))) ss := fun s hs => by
 refine ⟨(h s hs).1, ?_⟩
 by_cases e : s.nd = i
 · rw [e, up_at]
   have := (h s hs).2
   rw [e] at this
   exact (tk_page hok ht).2.2.2.2 _ this
 · rw [up_ne _ _ e]; exact (h s hs).2
theorem Ow.ins {k : Nat} {nd : Nat → Nd} {ss : List Sl} (h : Ow k nd ss) {x : Sl} (hx : x.nd < k ∧ (x.at_, 0) ∈ (nd x.nd).T) (q : Nat) : Ow k nd (Sb.ins ss q x) := fun s hs => by
 rcases ins_mem.mp hs with rfl | h'
 · exact hx
 · exact h s h'
theorem Ow.set {k : Nat} {nd : Nat → Nd} {ss : List Sl} (h : Ow k nd ss) {j : Nat} {s : Sl} (hs : ss[j]? = some s) (b : Nat) : Ow k nd (ss.set j { s with bm := b }) := fun s' hs' => by
 rcases List.mem_or_eq_of_mem_set hs' with h1 | rfl
 · exact h s' h1
 · exact h s (List.mem_of_getElem? hs)
structure PS (N0 : Nat) (w : World) (c z : Nat) (ly : Ly) (sz : Int) (m : Nat) (bs : List Nat) (ss : List Sl) (mn lw hi : Int) (k : Nat) (nb fm tm : Nat → Nat) (nd : Nat → Nd) (fr : Nat → List Nat) : Prop where
 d : DZ w z mn lw hi k nb fm tm nd fr
 c : DC N0 w c z ly sz m bs ss
 ow : Ow k nd ss
 mf : ∀ i, i < k → N0 ≤ fm i ∧ N0 ≤ tm i
 k4 : k ≤ 20
 ml : ∀ i, i < k → ly.1 ≠ fm i ∧ ly.1 ≠ tm i
section
variable {N0 : Nat} {w w' : World} {c z : Nat} {ly : Ly} {sz : Int} {m : Nat} {bs : List Nat} {ss : List Sl} {mn lw hi : Int} {k : Nat} {nb fm tm : Nat → Nat} {nd : Nat → Nd} {fr : Nat → List Nat}
theorem PS.b (h : PS N0 w c z ly sz m bs ss mn lw hi k nb fm tm nd fr) (hb : Below w.heap.size w w') : PS N0 w' c z ly sz m bs ss mn lw hi k nb fm tm nd fr := ⟨h.d.b hb, h.c.b hb, h.ow, h.mf, h.k4, h.ml⟩
theorem sl_len (h : PS N0 w c z ly sz m bs ss mn lw hi k nb fm tm nd fr) : ss.length ≤ 10000 := by
 have hs := h.c.so
 have hok := h.c.ok
 have ho := h.ow
 have hk := h.k4
 let f : Sl → Int × Int := fun s => ((s.nd : Int) * 256 + s.at_, 0)
 have hp : Srt (ss.map f) := by
   unfold Srt
   rw [List.pairwise_map]
   refine List.Pairwise.imp_of_mem (fun ha hb hl => ?_) hs
   have h1 := hok _ ha
   have h2 := hok _ hb
   unfold sok at h1 h2
   unfold lt at hl
   simp only [f]
   omega
 have := srt_len (l := ss.map f) (a := 0) (b := 256 * 20) hp (fun x hx => by
   obtain ⟨s, hs', rfl⟩ := List.mem_map.1 hx
   have h1 := hok s hs'
   have h2 := (ho s hs').1
   unfold sok at h1
   simp only [f]
   omega)
 rw [List.length_map] at this
 omega
end
end Sb
end Go.Proofs.YtfefehkapffljaaGreatDoor
namespace Go.Proofs.YtfefehkapffljaaGreatDoor
open Go.RowKit Go.Maps
namespace Sb
open Fr Bd Zn Dz
structure Rx (w : World) (r : Nat) (u v : Value) : Prop where
 c0 : w.cell? ⟨r, 0, none⟩ = some u
 c1 : w.cell? ⟨r, 1, none⟩ = some v
 fz : ∀ o, w.frozen? ⟨r, o, none⟩ = false
 tg : Tag w r 42
theorem Rx.blk {w w' : World} {r : Nat} {u v : Value} (h : Rx w r u v) (hb : w'.heap[r]? = w.heap[r]?) : Rx w' r u v :=
 ⟨(World.cell?_of_block (a := ⟨r, 0, none⟩) hb).trans h.c0, (World.cell?_of_block (a := ⟨r, 1, none⟩) hb).trans h.c1, fun o => (World.frozen?_of_block (a := ⟨r, o, none⟩) hb).trans (h.fz o), h.tg.blk hb⟩
theorem Rx.b {w w' : World} {r : Nat} {u v : Value} (h : Rx w r u v) (hb : Below w.heap.size w w') : Rx w' r u v := h.blk (hb.block r h.tg.lt)
theorem Rx.c {ts : List (Option TypeId)} {N : Nat} {w w' : World} {r : Nat} {u v : Value} (h : Rx w r u v) (hc : Chg ts N w w') (hn : some 42 ∉ ts) : Rx w' r u v := h.blk (hc.same h.tg hn)
theorem rx_new (w : World) : Rx (w.alloc (.cells #[.int .i64 0, .int .i64 0] 42)) w.heap.size (.int .i64 0) (.int .i64 0) := by
 have q := World.cell?_alloc_new w #[.int .i64 0, .int .i64 0] 42
 exact ⟨q 0, q 1, fun o => World.frozen?_alloc_at _ _ w.heap.size o rfl, tag_new _ _ _⟩
theorem below_set2 {w W : World} {r : Nat} (h : Below w.heap.size w W) (hr : w.heap.size ≤ r) (u v : Value) : Below w.heap.size w ((W.setCell ⟨r, 0, none⟩ u).setCell ⟨r, 1, none⟩ v) := (h.setCell hr u).setCell hr v
theorem set2_far {W : World} {r : Nat} {p : Addr} {x : Value} (h : W.cell? p = some x) (hne : p.block ≠ r) (u v : Value) : ((W.setCell ⟨r, 0, none⟩ u).setCell ⟨r, 1, none⟩ v).cell? p = some x :=
 (cso (fun e => hne (by rw [← e]))).trans ((cso (fun e => hne (by rw [← e]))).trans h)
theorem set2_at {W : World} {r : Nat} {a b : Value} (h0 : W.cell? ⟨r, 0, none⟩ = some a) (h1 : W.cell? ⟨r, 1, none⟩ = some b) (u v : Value) : ((W.setCell ⟨r, 0, none⟩ u).setCell ⟨r, 1, none⟩ v).cell? ⟨r, 0, none⟩ = some u ∧ ((W.setCell ⟨r, 0, none⟩ u).setCell ⟨r, 1, none⟩ v).cell? ⟨r, 1, none⟩ = some v :=
 ⟨(cso (by simp)).trans (css h0), css ((cso (by simp)).trans h1)⟩
theorem Chg.fresh {ts : List (Option TypeId)} {N : Nat} {w w' : World} (h : Chg ts N w w') {r : Nat} (hr : w.heap.size ≤ r) (o : Nat) (v : Value) : Chg ts N w (w'.setCell ⟨r, o, none⟩ v) :=
 ⟨h.os, h.tape, h.output, Nat.le_trans h.size (by simp [World.setCell]), fun k hk => by
   rw [Below.heap_setCell _ _ _ _ (by simp only; omega)]
   exact h.blk k hk⟩
theorem Chg.drew {ts : List (Option TypeId)} {N : Nat} {w w' : World} (h : Chg ts N w w') : Chg ts N w w'.drew := ⟨h.os, h.tape, h.output, h.size, h.blk⟩
section
variable {N0 : Nat} {w w' : World} {c z : Nat} {ly : Ly} {sz : Int} {m : Nat} {bs : List Nat} {ss : List Sl} {mn lw hi : Int} {k : Nat} {nb fm tm : Nat → Nat} {nd : Nat → Nd} {fr : Nat → List Nat}
theorem PS.chg (h : PS N0 w c z ly sz m bs ss mn lw hi k nb fm tm nd fr) {ts : List (Option TypeId)} {N : Nat} (hc : Chg ts N w w') (h0 : none ∉ ts) (h1 : ∀ t ∈ ([106, 107, 22, 3, 188] : List TypeId), some t ∉ ts) (h2 : ∀ t ∈ ([114, 116, 124] : List TypeId), some t ∉ ts) : PS N0 w' c z ly sz m bs ss mn lw hi k nb fm tm nd fr :=
 ⟨dz_chg h.d hc h0 h1, h.c.same (hc.toSame h2) (hc.ly h0 h.c.ym), h.ow, h.mf, h.k4, h.ml⟩
theorem PS.rx (h : PS N0 w c z ly sz m bs ss mn lw hi k nb fm tm nd fr) {r : Nat} {a b : Value} (hr : Rx w r a b) (u v : Value) : PS N0 ((w.setCell ⟨r, 0, none⟩ u).setCell ⟨r, 1, none⟩ v) c z ly sz m bs ss mn lw hi k nb fm tm nd fr :=
 h.chg ((Chg.set hr.tg (Nat.zero_le _) 0 u).trans (Chg.set (hr.tg.set _ _) (Nat.zero_le _) 1 v)) (by decide) (by decide) (by decide)
theorem PS.bit (h : PS N0 w c z ly sz m bs ss mn lw hi k nb fm tm nd fr) {j b : Nat} {s : Sl} (eb : bs[j]? = some b) (es : ss[j]? = some s) {x : Nat} (hx : x < 2 ^ m) : PS N0 (w.setCell ⟨b, 3, none⟩ (.int .u64 x)) c z ly sz m bs (ss.set j { s with bm := x }) mn lw hi k nb fm tm nd fr := by
 have hS := h.c.sl j b s eb es
 have hc : Chg [some 124] 0 w (w.setCell ⟨b, 3, none⟩ (.int .u64 x)) := Chg.set hS.tg (Nat.zero_le _) 3 _
 have hk : Kept b b w (w.setCell ⟨b, 3, none⟩ (.int .u64 x)) := ⟨rfl, rfl, rfl, by simp [World.setCell], fun i _ h1 _ => Below.heap_setCell _ _ _ _ h1⟩
 exact ⟨dz_chg h.d hc (by decide) (by decide), h.c.turn eb es x hx hk ⟨(cso (by simp)).trans hS.c0, (cso (by simp)).trans hS.c1, (cso (by simp)).trans hS.c2, css hS.c3, hS.tg.set _ _, fun o => by rw [World.frozen?_setCell]; exact hS.fz o⟩, h.ow.set es x, h.mf, h.k4, h.ml⟩
end
theorem or_bit (x i : Nat) (hx : x < 18446744073709551616) (hi : i < 64) : bits .or .u64 (x : Int) (IntKind.u64.wrap (2 ^ i)) = ((x ||| 2 ^ i : Nat) : Int) := by
 have hp : 2 ^ i < 18446744073709551616 := (Nat.pow_lt_pow_right (by omega) hi : 2 ^ i < 2 ^ 64)
 have e : (2 : Int) ^ i = ((2 ^ i : Nat) : Int) := by push_cast; rfl
 have e2 : IntKind.u64.wrap ((2 : Int) ^ i) = ((2 ^ i : Nat) : Int) := by
   rw [e]
   generalize 2 ^ i = P at *
   rw [IntKind.wrap_u64]; omega
 rw [e2, bits_or_u64_nat _ _ hx hp]
abbrev K4 : List (Option TypeId) := [none, some 114, some 116, some 124]
theorem xor_max (x : Nat) (hx : x < 18446744073709551616) : bits .xor .u64 IntKind.u64.max (x : Int) = ((18446744073709551615 - x : Nat) : Int) := by
 have h1 : (BitVec.ofInt 64 (x : Int)).toNat = x := by
   rw [BitVec.ofInt_natCast, BitVec.toNat_ofNat]; exact Nat.mod_eq_of_lt (by omega)
 have h2 : BitVec.ofInt 64 IntKind.u64.max = BitVec.allOnes 64 := by decide +kernel
 have h3 : (BitVec.allOnes 64 ^^^ BitVec.ofInt 64 (x : Int)).toNat = 2 ^ 64 - 1 - x := by rw [BitVec.allOnes_xor, BitVec.toNat_not, h1]
 have h4 : ∀ M : Int, bits .xor .u64 M (x : Int) = IntKind.u64.wrap ((BitVec.ofInt 64 M ^^^ BitVec.ofInt 64 (x : Int)).toNat : Int) := fun M => rfl
 rw [h4, h2, h3, IntKind.wrap_u64]
 omega
inductive TkS (N0 : Nat) (c z : Nat) (ly : Ly) (sz : Int) (m : Nat) (bs : List Nat) (ss : List Sl) (mn lw hi : Int) (k : Nat) (nb fm tm : Nat → Nat) (nd : Nat → Nd) (fr : Nat → List Nat) (x : Int) (u : Bool) (e : Nat → Addr) (w : World) : Ending → World → Prop
 | no (a : Nat) (w' : World) (ha : a < 10) (hp : PS N0 w' c z ly sz m bs ss mn lw hi k nb fm tm nd fr) (hc : Chg K4 N0 w w')
   (hr : (a = 1 ∧ ¬ (0 ≤ x ∧ x < k)) ∨ ∃ x' : Nat, x = x' ∧ x' < k ∧ (bst m x' ss ss.length).1 = none ∧ (fr x').find? (fun i => tkC 0 mn u (nd i) == 2) = none ∧ a = if (fr x').any (fun i => tkC 0 mn u (nd i) == 1) then 6 else 4) :
   TkS N0 c z ly sz m bs ss mn lw hi k nb fm tm nd fr x u e w (.returned (.tuple #[objV 0 0, errV (e a)])) w'
 | old (x' j : Nat) (s : Sl) (w' : World) (hx : x = x') (hx' : x' < k) (hb : (bst m x' ss ss.length).1 = some j) (hs : ss[j]? = some s)
   (hp : PS N0 w' c z ly sz m bs (ss.set j { s with bm := s.bm ||| 2 ^ ff s.bm }) mn lw hi k nb fm tm nd fr) (hc : Chg K4 N0 w w') :
   TkS N0 c z ly sz m bs ss mn lw hi k nb fm tm nd fr x u e w (.returned (.tuple #[objV s.nd (s.at_ * 64 + ff s.bm * sz), .nilIface])) w'
 | new (x' i b q : Nat) (a : Int) (w' : World) (hx : x = x') (hx' : x' < k) (hb : (bst m x' ss ss.length).1 = none) (hf : (fr x').find? (fun i => tkC 0 mn u (nd i) == 2) = some i) (hik : i < k) (ha : a = tkA 0 (nd i)) (hq : Pos ss i a q)
   (hp : PS N0 w' c z ly sz m (Sb.ins bs q b) (Sb.ins ss q ⟨i, a, 1⟩) mn lw hi k nb fm tm (up nd i (tkN 0 (nd i))) fr) (hc : Chg K4 N0 w w') :
   TkS N0 c z ly sz m bs ss mn lw hi k nb fm tm nd fr x u e w (.returned (.tuple #[objV i (a * 64), .nilIface])) w'
theorem ins_set {α : Type} {l : List α} {q : Nat} {x y : α} (hq : q ≤ l.length) : (Sb.ins l q x).set q y = Sb.ins l q y := by
 apply List.ext_getElem?
 intro i
 rw [List.getElem?_set, ins_get _ hq, ins_get _ hq, ins_length]
 by_cases h : q = i
 · subst h; simp; omega
 · rw [if_neg h]
   by_cases h1 : i < q
   · rw [if_pos h1, if_pos h1]
   · rw [if_neg h1, if_neg h1, if_neg (Ne.symm h), if_neg (Ne.symm h)]
theorem ff_zero : ff 0 = 0 := by
 obtain ⟨_, _, h⟩ := ff_spec (x := 0) (m := 1) (by decide) (by decide) (by decide)
 rcases Nat.eq_zero_or_pos (ff 0) with h0 | h0
 · exact h0
 · have := h 0 h0
   simp at this
end Sb
end Go.Proofs.YtfefehkapffljaaGreatDoor
namespace Go.Proofs.YtfefehkapffljaaGreatDoor
open Go.RowKit Go.Maps
namespace Sb
open Fr Bd Zn Dz
theorem snew_ok (N0 z : Nat) (sz : Int) (w : World) (h1 : 1 ≤ sz) (h2 : sz ≤ 64) (hN : N0 ≤ w.heap.size) :
   Calls Tryz.prog 13 #[ptr z, .int .i64 sz] w fun ev w' => ∃ c m ly, ev = .returned (.tuple #[ptr c, .nilIface]) ∧ DC N0 w' c z ly sz m [] [] ∧ w.heap.size ≤ ly.1 ∧ ly.2 = .map #[] 0 ∧ Below w.heap.size w w' := by
 have d1 : decide (sz < 1) = false := by simp; omega
 have d2 : decide (sz > 64) = false := by simp; omega
 have hmm := @run_makeMap Tryz.prog
 unfold ptr at *
 go_enter Tryz.func13, Tryz.ntmps13
 go_wp2
 go_ret2
 have e1 : (w.alloc (.map #[] 0)).heap.size = w.heap.size + 1 := by simp
 have hq := World.cell?_alloc_new (w.alloc (.map #[] 0)) #[.pointer (some ⟨z, 0, none⟩), .int .i64 sz, .slice none 0 0, .map (some w.heap.size)] 114
 have ht := tag_new (w.alloc (.map #[] 0)) #[.pointer (some ⟨z, 0, none⟩), .int .i64 sz, .slice none 0 0, .map (some w.heap.size)] 114
 have hf := fun o => World.frozen?_alloc_at (w := w.alloc (.map #[] 0)) #[.pointer (some ⟨z, 0, none⟩), .int .i64 sz, .slice none 0 0, .map (some w.heap.size)] 114 (w.heap.size + 1) o e1.symm
 rw [e1] at hq ht
 have h5 : (0 : Int) ≤ 64 / sz := Int.ediv_nonneg (by omega) (by omega)
 refine ⟨w.heap.size + 1, (64 / sz).toNat, (w.heap.size, .map #[] 0), rfl, ⟨hq 0, hq 1, ⟨none, 0, hq 2, World.ownsRow_nil _ _ _ _⟩, ht, by omega, by simp, rfl, List.nodup_nil, fun i b s h => by simp at h, by simp, List.Pairwise.nil, hf, ⟨h1, h2, by omega⟩, ⟨hq 3, alloc_at (MapKept.heap_alloc w _).1, rfl, hN⟩⟩, Nat.le_refl _, rfl, ballo (ballo (Below.refl _ _) _) _⟩
theorem ssize_ok (c : Nat) (sz : Int) (w : World) (h1 : w.cell? ⟨c, 1, none⟩ = some (.int .i64 sz)) :
   Calls Tryz.prog 89 #[ptr c] w fun ev w' => ev = .returned (.int .i64 sz) ∧ w' = w := by
 unfold ptr
 go_enter Tryz.func89, Tryz.ntmps89
 go_wp2
 go_ret
 exact ⟨rfl, rfl⟩
set_option maxRecDepth 100000 in
set_option maxHeartbeats 8000000 in
theorem each_ok (c : Nat) (sz : Int) (m n d : Nat) (p : Option Addr) (B : Nat → Nat) (f : Nat) (lb : Array Value) (ef : ∀ args w, (callFunc f args).run Tryz.prog w = .ok (.enter f args) w) (R : Nat → Nat → World → Prop) (w : World)
   (h2 : w.cell? ⟨c, 2, none⟩ = some (.slice p n d)) (hm : 1 ≤ sz ∧ sz ≤ 64 ∧ (m : Int) = 64 / sz) (h0 : R 0 0 w)
   (hk : ∀ i j W, R i j W → W.cell? ⟨c, 1, none⟩ = some (.int .i64 sz) ∧ ∀ t, t < n → ∃ g, p = some ⟨g, 0, none⟩ ∧ W.cell? ⟨g, t, none⟩ = some (ptr (B t)))
   (hc : ∀ i j W, i < n → j < m → R i j W → Calls Tryz.prog f (#[ptr (B i), .int .i64 (j : Int)] ++ lb) W fun ev W' => ev = .returned (.tuple #[]) ∧ R i (j + 1) W')
   (hx : ∀ i W, i < n → R i m W → R (i + 1) 0 W) (hn : n ≤ 100000) (hm64 : m ≤ 64) :
   Calls Tryz.prog 49 #[ptr c, .func (.func f) #[] lb] w fun ev w' => ev = .returned (.tuple #[]) ∧ R n 0 w' := by
 have H0 := hide h0
 have HK := hide hk
 have HC := hide hc
 have HX := hide hx
 have HRM := hide (fun W (h : W.cell? ⟨c, 1, none⟩ = some (.int .i64 sz)) => room_ok c sz W h hm.1 hm.2.1)
 rw [← hm.2.2] at HRM
 clear h0 hk hc hx hm
 unfold ptr at *
 go_enter Tryz.func49, Tryz.ntmps49
 go_wp2_with fail
 go_loopw [12] (fun s wr => ∃ i : Nat, s = .int .i64 i ∧ i ≤ n ∧ Hid (R i 0 wr)) (fun s _ => n - (RowKit.intOf s).toNat)
 case atStart => exact ⟨0, rfl, Nat.zero_le _, H0⟩
 case round =>
   obtain ⟨i, rfl, hi, hR⟩ := hrel
   clear h2 H0
   by_cases hin : i < n
   · obtain ⟨c1, hrow⟩ := (unhide HK) i 0 wr (unhide hR)
     obtain ⟨g, rfl, cg⟩ := hrow i hin
     have hi0 : (0 : Int) ≤ i := by omega
     have hi1 : (i : Int) < n := by omega
     have HRW := hide ((unhide HRM) wr c1)
     clear hrow
     go_wp2_with (go_at_call 114; refine (unhide HRW).mono ?_; rintro ev w3 ⟨rfl, rfl⟩)
     clear c1 cg
     go_loopw [18] (fun s wr => ∃ j : Nat, s = .int .i64 j ∧ j ≤ m ∧ Hid (R i j wr)) (fun s _ => m - (RowKit.intOf s).toNat)
     case atStart => exact ⟨0, rfl, Nat.zero_le _, hR⟩
     case round =>
       clear HRW hR
       obtain ⟨j, rfl, hj, hR⟩ := hrel
       by_cases hjm : j < m
       · have hj1 : (j : Int) < m := by omega
         have HCALL := hide ((unhide HC) i j _ hin hjm (unhide hR))
         clear hR
         go_wp2_with (go_at_fn f; refine (unhide HCALL).mono ?_; rintro ev w5 ⟨rfl, hR5⟩)
         have hR5 := hide hR5
         clear HCALL
         go_roundw
         case rel => exact ⟨j + 1, by go_num, by omega, hR5⟩
         case measure => simp [RowKit.intOf]; omega
       · obtain rfl : j = m := by omega
         have hR6 := hide ((unhide HX) i _ hin (unhide hR))
         clear hR
         go_wp2
         go_roundw
         case rel => exact ⟨i + 1, by go_num, by omega, hR6⟩
         case measure => simp [RowKit.intOf]; omega
   · obtain rfl : i = n := by omega
     go_wp2
     go_end0
     exact ⟨rfl, unhide hR⟩
end Sb
end Go.Proofs.YtfefehkapffljaaGreatDoor
namespace Go.Proofs.YtfefehkapffljaaGreatDoor
open Go.RowKit Go.Maps
namespace Sb
open Fr Bd Zn Dz
def tot (m : Nat) (ss : List Sl) : Nat → Nat
 | 0 => 0
 | i + 1 => tot m ss i + pop (ss.getD i default).bm m
theorem tot_le (m : Nat) (ss : List Sl) : ∀ i, tot m ss i ≤ i * m
 | 0 => by simp [tot]
 | i + 1 => by
   have h1 := tot_le m ss i
   have h2 := pop_le (ss.getD i default).bm m
   rw [tot, Nat.add_mul, Nat.one_mul]; omega
theorem eg48 : ∀ args w, (callFunc 64 args).run Tryz.prog w = .ok (.enter 64 args) w := enters_of Tryz.func64 (by kernel_rfl) rfl
structure Nb (w : World) (r : Nat) (v : Int) : Prop where
 c : w.cell? ⟨r, 0, none⟩ = some (.int .i64 v)
 f : w.frozen? ⟨r, 0, none⟩ = false
theorem Nb.set {w : World} {r : Nat} {v : Int} (h : Nb w r v) (u : Int) : Nb (w.setCell ⟨r, 0, none⟩ (.int .i64 u)) r u := ⟨css h.c, by rw [World.frozen?_setCell]; exact h.f⟩
theorem Nb.off {w : World} {r q : Nat} {v : Int} (h : Nb w r v) (hne : q ≠ r) (u : Value) : Nb (w.setCell ⟨q, 0, none⟩ u) r v := ⟨(cso (by simp <;> exact hne)).trans h.c, by rw [World.frozen?_setCell]; exact h.f⟩
def CntR (bm j rb tb : Nat) (r t : Int) (w : World) (ev : Ending) (w' : World) : Prop := ev = .returned (.tuple #[]) ∧ w' = if bm.testBit j = true then (w.setCell ⟨rb, 0, none⟩ (.int .i64 (r + 1))).setCell ⟨tb, 0, none⟩ (.int .i64 (t + 1)) else w.setCell ⟨rb, 0, none⟩ (.int .i64 (r + 1))
set_option maxHeartbeats 4000000 in
theorem cnt1_ok (rb tb b j bm : Nat) (r t : Int) (w : World) (hr : Nb w rb r) (ht : Nb w tb t) (h3 : w.cell? ⟨b, 3, none⟩ = some (.int .u64 bm)) (n1 : rb ≠ tb) (hj : j < 64) (hb : bm < 18446744073709551616) (br : 0 ≤ r ∧ r ≤ 1000000) (bt : 0 ≤ t ∧ t ≤ 1000000) :
   Calls Tryz.prog 64 (#[ptr b, .int .i64 (j : Int)] ++ #[ptr rb, ptr tb]) w fun ev w' => CntR bm j rb tb r t w ev w' := by
 have c0 := hr.c
 have f0 := hr.f
 have c1 := ht.c
 have f1 := ht.f
 have k3 : (w.setCell ⟨rb, 0, none⟩ (.int .i64 (r + 1))).cell? ⟨b, 3, none⟩ = some (.int .u64 bm) := (cso (by simp)).trans h3
 have k1 : (w.setCell ⟨rb, 0, none⟩ (.int .i64 (r + 1))).cell? ⟨tb, 0, none⟩ = some (.int .i64 t) := (cso (by simp <;> exact n1)).trans c1
 have HS := hide (shas_ok b j bm _ k3 hj hb)
 rw [show (#[ptr b, Value.int .i64 (j : Int)] ++ #[ptr rb, ptr tb] : Array Value) = #[ptr b, .int .i64 (j : Int), ptr rb, ptr tb] from rfl]
 clear hr ht
 unfold ptr at *
 cases hbit : bm.testBit j with
 | true =>
   rw [hbit] at HS
   have HB := hide hbit
   clear hbit
   go_enter Tryz.func64, Tryz.ntmps64
   go_wp2_with (go_at_call 51; refine (unhide HS).mono ?_; rintro ev w3 ⟨rfl, rfl⟩)
   go_end0
   exact ⟨rfl, by rw [if_pos (unhide HB)]⟩
 | false =>
   rw [hbit] at HS
   have HB := hide hbit
   clear hbit
   go_enter Tryz.func64, Tryz.ntmps64
   go_wp2_with (go_at_call 51; refine (unhide HS).mono ?_; rintro ev w3 ⟨rfl, rfl⟩)
   go_end0
   exact ⟨rfl, by rw [if_neg (by rw [unhide HB]; simp)]⟩
structure CnI (w : World) (m : Nat) (ss : List Sl) (tb rb : Nat) (i j : Nat) (W : World) : Prop where
 b : Below w.heap.size w W
 r : Nb W rb ((i * m + j : Nat) : Int)
 t : Nb W tb ((tot m ss i + pop (ss.getD i default).bm j : Nat) : Int)
set_option maxRecDepth 100000 in
set_option maxHeartbeats 4000000 in
theorem count_ok (N0 : Nat) (c z : Nat) (ly : Ly) (sz : Int) (m : Nat) (bs : List Nat) (ss : List Sl) (w : World) (h : DC N0 w c z ly sz m bs ss) (hn : ss.length ≤ 10000) :
   Calls Tryz.prog 21 #[ptr c] w fun ev w' => ev = .returned (.tuple #[.int .i64 (tot m ss ss.length), .int .i64 ((ss.length * m : Nat) : Int)]) ∧ Below w.heap.size w w' := by
 have F2 := ballo (ballo (Below.refl w.heap.size w) (.cells #[.int .i64 0] 3)) (.cells #[.int .i64 0] 3)
 have hs1 : (w.alloc (.cells #[.int .i64 0] 3)).heap.size = w.heap.size + 1 := by simp
 have n1 : Nb ((w.alloc (.cells #[.int .i64 0] 3)).alloc (.cells #[.int .i64 0] 3)) w.heap.size 0 :=
   ⟨((ballo (Below.refl _ _) _).cell (p := ⟨w.heap.size, 0, none⟩) (by simp)).trans (World.cell?_alloc_new w #[.int .i64 0] 3 0), ((ballo (Below.refl _ _) _).frozen (p := ⟨w.heap.size, 0, none⟩) (by simp)).trans (World.frozen?_alloc_at _ _ w.heap.size 0 rfl)⟩
 have n2 : Nb ((w.alloc (.cells #[.int .i64 0] 3)).alloc (.cells #[.int .i64 0] 3)) (w.heap.size + 1) 0 := by
   have q := World.cell?_alloc_new (w.alloc (.cells #[.int .i64 0] 3)) #[.int .i64 0] 3 0
   have q2 := World.frozen?_alloc_at (w := w.alloc (.cells #[.int .i64 0] 3)) #[.int .i64 0] 3 (w.heap.size + 1) 0 hs1.symm
   rw [hs1] at q
   exact ⟨q, q2⟩
 have hml := h.mle
 obtain ⟨p, d, e2, o2⟩ := h.c2
 have hrow := h.slabs o2
 have hR0 : CnI w m ss w.heap.size (w.heap.size + 1) 0 0 ((w.alloc (.cells #[.int .i64 0] 3)).alloc (.cells #[.int .i64 0] 3)) := ⟨F2, by simpa using n2, by simpa [tot, pop] using n1⟩
 have hcl := h.tg.lt
 rw [h.len] at e2
 have HEA := hide (each_ok c sz m ss.length d p (fun i => bs.getD i 0) 64 #[ptr (w.heap.size + 1), ptr w.heap.size] eg48 (CnI w m ss w.heap.size (w.heap.size + 1)) _ ((F2.cell (p := ⟨c, 2, none⟩) hcl).trans e2) h.mm hR0
   (fun i j W hW => ⟨(hW.b.cell (p := ⟨c, 1, none⟩) hcl).trans h.c1, fun t ht => by
     obtain ⟨g, rfl, hg, cg, _⟩ := hrow t ht
     exact ⟨g, rfl, (hW.b.cell (p := ⟨g, t, none⟩) hg).trans cg⟩⟩)
   (fun i j W hi hj hW => by
     obtain ⟨b, s, eb, es, hS, hok⟩ := h.slab hi
     have hbl := hS.tg.lt
     have ht1 := tot_le m ss i
     have ht2 := pop_le s.bm j
     have hmi : i * m ≤ 10000 * 64 := Nat.mul_le_mul (by omega) hml.2
     have hgs : ss.getD i default = s := getD_at es
     have hgb : bs.getD i 0 = b := getD_at eb
     have hWt := hW.t
     simp only [hgs, hgb] at hWt ⊢
     refine (cnt1_ok (w.heap.size + 1) w.heap.size b j s.bm _ _ W hW.r hWt ((hW.b.cell (p := ⟨b, 3, none⟩) hbl).trans hS.c3) (by omega) (by omega) (pow_le64 hok.2.2.1 hml.2) (by omega) (by omega)).mono ?_
     rintro ev W' ⟨rfl, hw⟩
     refine ⟨rfl, ?_⟩
     by_cases hbit : s.bm.testBit j = true
     · rw [if_pos hbit] at hw
       subst hw
       refine ⟨(hW.b.setCell (by simp only; omega) _).setCell (by simp only; omega) _, ?_, ?_⟩
       · have := (hW.r.set (((i * m + j : Nat) : Int) + 1)).off (q := w.heap.size) (by omega) (.int .i64 (((tot m ss i + pop s.bm j : Nat) : Int) + 1))
         rw [show ((i * m + (j + 1) : Nat) : Int) = ((i * m + j : Nat) : Int) + 1 by omega]; exact this
       · have := (hWt.off (q := w.heap.size + 1) (by omega) (.int .i64 (((i * m + j : Nat) : Int) + 1))).set (((tot m ss i + pop s.bm j : Nat) : Int) + 1)
         rw [hgs, pop, if_pos hbit]
         rw [show ((tot m ss i + (pop s.bm j + 1) : Nat) : Int) = ((tot m ss i + pop s.bm j : Nat) : Int) + 1 by omega]; exact this
     · rw [if_neg hbit] at hw
       subst hw
       refine ⟨hW.b.setCell (by simp only; omega) _, ?_, ?_⟩
       · have := hW.r.set (((i * m + j : Nat) : Int) + 1)
         rw [show ((i * m + (j + 1) : Nat) : Int) = ((i * m + j : Nat) : Int) + 1 by omega]; exact this
       · have := hWt.off (q := w.heap.size + 1) (by omega) (.int .i64 (((i * m + j : Nat) : Int) + 1))
         rw [hgs, pop, if_neg hbit]
         simpa using this)
   (fun i W hi hW => ⟨hW.b, by have := hW.r; rw [Nat.add_mul, Nat.one_mul]; exact this, by have := hW.t; rw [tot]; simpa [pop] using this⟩) (by omega) hml.2)
 clear h e2 hrow hR0 n1 n2 F2
 unfold ptr at *
 go_enter Tryz.func21, Tryz.ntmps21
 go_wp2_with fail
 refine (unhide HEA).mono ?_
 rintro ev w5 ⟨rfl, hR⟩
 have c0 := hR.t.c
 have c1 := hR.r.c
 have f0 := hR.t.f
 have f1 := hR.r.f
 have hb := hR.b
 simp only [Nat.add_zero, pop] at c0 c1
 clear hR HEA
 go_wp2_with fail
 have n01 : w.heap.size ≠ w.heap.size + 1 := by omega
 have k0 : ∀ u v, ((w5.setCell ⟨w.heap.size, 0, none⟩ u).setCell ⟨w.heap.size + 1, 0, none⟩ v).cell? ⟨w.heap.size, 0, none⟩ = some u := fun u v => (cso (by simp)).trans (css c0)
 have k1 : ∀ u v, ((w5.setCell ⟨w.heap.size, 0, none⟩ u).setCell ⟨w.heap.size + 1, 0, none⟩ v).cell? ⟨w.heap.size + 1, 0, none⟩ = some v := fun u v => css ((cso (by simp)).trans c1)
 have HB : Hid (∀ u v, Below w.heap.size w ((w5.setCell ⟨w.heap.size, 0, none⟩ u).setCell ⟨w.heap.size + 1, 0, none⟩ v)) := fun u v => (hb.setCell (Nat.le_refl _) _).setCell (Nat.le_succ _) _
 clear hb
 go_region
 all_goals
   go_wp2
   refine bodyPost_ret (v := .tuple #[.int .i64 (tot m ss ss.length), .int .i64 ((ss.length * m : Nat) : Int)]) (by simp [results, Tryz.results21, go_sem, k0, k1]; try rfl) rfl ?_
   exact ⟨rfl, ((unhide HB) _ _).drew⟩
end Sb
end Go.Proofs.YtfefehkapffljaaGreatDoor
