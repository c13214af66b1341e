/- Package pool's small functions: Reserve, Waiting, wait · What a depot's Take and Give do, told without memory; a depot of which nothing was given back. -/
import Derived.Test.YtcbmfakjfoggaaaGreatDoorG33
import Derived.Test.YtcbmfakjfoggaaaGreatDoorG27
import Derived.Test.YtcbmfakjfoggaaaGreatDoorG32
namespace Go.Proofs.YtcbmfakjfoggaaaGreatDoor
open Go.RowKit Go.Maps
namespace Pl
open Fr Bd Zn Dz Sb Mg
theorem ivs_snoc (l : List Nat) (x : Nat) : ivs (l ++ [x]) = ivs l ++ [.int .i64 x] := by simp [ivs]
/-- A row of one's own, cut at its end. -/
theorem own_cut {w : World} {B e size g n k c : Nat} {xs ys : List Value} (h : w.ownsRow B e size (.slice (some ⟨g, 0, none⟩) n c) n xs) (hk : k ≤ n) (hy : xs.take (k * size) = ys) : w.ownsRow B e size (.slice (some ⟨g, 0, none⟩) k c) k ys := by
  have hl := h.1
  have hks : k * size ≤ n * size := Nat.mul_le_mul_right _ hk
  refine ⟨by rw [← hy, List.length_take, hl]; omega, ?_⟩
  rcases h.2 with ⟨e1, _⟩ | ⟨g', cap, cur, e1, hg, hh, h1, h2, h3, h4⟩
  · cases e1
  · simp only [Value.slice.injEq, Option.some.injEq, Addr.mk.injEq, and_true, true_and] at e1
    obtain ⟨rfl, rfl⟩ := e1
    refine Or.inr ⟨g, c, cur, rfl, hg, hh, by omega, h2, h3, ?_⟩
    rw [← hy, ← h4, List.take_take, Nat.min_eq_left hks]
theorem own_cap {w : World} {B e size g n c : Nat} {xs : List Value} (h : w.ownsRow B e size (.slice (some ⟨g, 0, none⟩) n c) n xs) : n ≤ c ∧ c ≤ maxLen := by
  rcases h.2 with ⟨e1, _⟩ | ⟨g', cap, cur, e1, hg, hh, h1, h2, h3, h4⟩
  · cases e1
  · simp only [Value.slice.injEq, Option.some.injEq, Addr.mk.injEq, and_true, true_and] at e1
    obtain ⟨rfl, rfl⟩ := e1
    exact ⟨h1, h2⟩
section
variable {B : Nat} {w w' : World} {pb d tm ym : Nat} {P : Ps}
set_option maxRecDepth 100000 in
theorem reserve_ok (h : PLm B w pb d tm ym P) : Calls Tryz.prog 18 #[.pointer (some ⟨pb, 0, none⟩)] w fun ev w' => ev = .returned (.int .i64 P.R.length) ∧ w' = w := by
  obtain ⟨p, c, hv⟩ := own_sl h.r
  have c2 := h.c2
  rw [hv] at c2
  generalize P.R.length = n at *
  clear h hv
  go_enter Tryz.func18, Tryz.ntmps18
  go_wp2
  go_ret
  exact ⟨rfl, rfl⟩
/-- The line's numbers, as the library's contracts want them. -/
theorem line_cells (h : PLm B w pb d tm ym P) {b c : Nat} (hv : P.vl = .slice (some ⟨b, 0, none⟩) P.L.length c) : (∀ j, j < (P.L.map Int.ofNat).length → w.cell? ⟨b, 0 + j, none⟩ = some (.int .i64 ((P.L.map Int.ofNat).getD j 0))) ∧ P.L.length ≤ c ∧ c ≤ maxLen ∧ (∀ j, j < P.L.length → w.frozen? ⟨b, 0 + j, none⟩ = false) := by
  have hl := h.l
  rw [hv] at hl
  refine ⟨fun j hj => ?_, ?_⟩
  · rw [List.length_map] at hj
    rw [Nat.zero_add, hl.cellAt j (by omega)]
    simp [ivs, hj]
  · rcases hl.2 with ⟨e1, _⟩ | ⟨g', cap, cur, e1, hg, hh, h1, h2, h3, h4⟩
    · cases e1
    · simp only [Value.slice.injEq, Option.some.injEq, Addr.mk.injEq, and_true, true_and] at e1
      obtain ⟨rfl, rfl⟩ := e1
      exact ⟨h1, h2, fun j _ => hl.frozenAt _⟩
theorem ivs_of (L : List Nat) : ((L.map Int.ofNat).take L.length).map (Value.int .i64) = ivs L := by
  rw [List.take_of_length_le (by simp), List.map_map]
  rfl
set_option maxRecDepth 100000 in
theorem waiting_ok (h : PLm B w pb d tm ym P) (hn8 : P.L.length ≤ 1000) : Calls Tryz.prog 17 #[.pointer (some ⟨pb, 0, none⟩)] w fun ev w' => ∃ v', ev = .returned v' ∧ w'.ownsRow w.heap.size 3 1 v' P.L.length (ivs P.L) ∧ Below w.heap.size w w' := by
  have c5 := h.c5
  have HC : Hid (Calls Tryz.prog 79 #[P.vl] w fun ev w' => ∃ v', ev = .returned v' ∧ w'.ownsRow w.heap.size 3 1 v' P.L.length (ivs P.L) ∧ Below w.heap.size w w') := by
    rcases id h.l.2 with ⟨e1, e2⟩ | ⟨g, cap, cur, e1, hg, hh, h1, h2, h3, h4⟩
    · rw [e1]
      refine (Sh.slices_Clone_int_nil 0 0 w).mono ?_
      rintro ev w' ⟨rfl, rfl⟩
      have : P.L = [] := List.length_eq_zero_iff.1 e2
      rw [this]
      exact ⟨_, rfl, World.ownsRow_nil _ _ _ _, Below.refl _ _⟩
    · obtain ⟨f1, f2, f3, f4⟩ := line_cells h e1
      rw [e1]
      refine (Sh.slices_Clone_int g 0 P.L.length cap (P.L.map Int.ofNat) w (by simp) ?_ f1).mono ?_
      · omega
      · rintro ev w' ⟨v', rfl, o1, _, b1⟩
        rw [ivs_of] at o1
        exact ⟨v', rfl, o1, b1⟩
  generalize P.vl = vl at *
  clear h
  go_enter Tryz.func17, Tryz.ntmps17
  go_wp2_with fail
  refine (unhide HC).mono ?_
  rintro ev w1 ⟨v', rfl, o1, b1⟩
  go_wp2
  go_ret
  exact ⟨v', rfl, o1, b1⟩
set_option maxRecDepth 100000 in
set_option maxHeartbeats 4000000 in
/-- wait where there is a place. -/
theorem wait_ok (h : PLm B w pb d tm ym P) (hB : B ≤ w.heap.size) (e7 : Addr) (he : w.cell? ⟨7, 0, none⟩ = some (errV e7)) (hlow : 7 < B) (hl : P.L.length < 8) (htk : P.tk < 1000000000000) :
    Calls Tryz.prog 74 #[.pointer (some ⟨pb, 0, none⟩)] w fun ev w' => ev = .returned (errV e7) ∧ ∃ vl', PLm B w' pb d tm ym { P with L := P.L ++ [P.tk + 1], tk := P.tk + 1, vl := vl' } ∧ Kp (fun b => b = pb ∨ OB P.vl b) w w' ∧ ∀ j, OB vl' j → OB P.vl j ∨ w.heap.size ≤ j := by
  obtain ⟨i0, hi0, hz0, hz1, hz2⟩ := info_parts info3
  have HI := hide hi0
  have HZ := hide hz0
  have HZ1 := hide hz1
  have HZ2 := hide hz2
  obtain ⟨p, c, hv⟩ := own_sl h.l
  have c5 := h.c5
  have c6 := h.c6
  have f6 := h.fz 6
  have f5 := h.fz 5
  have hl5 := h.l
  rw [hv] at c5
  have d1 : decide ((P.L.length : Int) ≥ 8) = false := by simp; omega
  have d2 : decide ((8 : Int) ≤ (P.L.length : Int)) = false := by simp; omega
  have hw1 : IntKind.i64.wrap ((P.tk : Int) + 1) = ((P.tk : Int) + 1) := IntWalk.i64_in _ (by omega)
  have hpb := h.ge
  have hlt := h.tg.lt
  have S1 := h.put6 (P.tk + 1)
  rw [show ((P.tk + 1 : Nat) : Int) = (P.tk : Int) + 1 from by omega] at S1
  have K1 := hide (Kp.set (S := fun b => b = pb ∨ OB P.vl b) w pb 6 (.int .i64 ((P.tk : Int) + 1)) (Or.inl rfl))
  have he1 : (w.setCell ⟨pb, 6, none⟩ (.int .i64 ((P.tk : Int) + 1))).cell? ⟨7, 0, none⟩ = some (errV e7) := (cso (by simp <;> omega)).trans he
  have HS1 := hide S1
  have x5 := S1.c5
  have x6 := S1.c6
  have xf := S1.fz 5
  have hsz : w.heap.size ≤ (w.setCell ⟨pb, 6, none⟩ (.int .i64 ((P.tk : Int) + 1))).heap.size := by simp [World.setCell]
  have hszl : (w.setCell ⟨pb, 6, none⟩ (.int .i64 ((P.tk : Int) + 1))).heap.size ≤ w.heap.size := by simp [World.setCell]
  have hT1 := hide S1.tg
  have xl := S1.l
  have HV := hide hv
  simp only at x5 x6 xl
  rw [hv] at x5 xl
  clear h hi0 hz0 hz1 hz2 S1 hl5 htk hv
  unfold errV at *
  generalize hn : P.L.length = n at *
  go_enter Tryz.func74, Tryz.ntmps74
  go_upto_region 4 with (fail)
  generalize w.setCell ⟨pb, 6, none⟩ (.int .i64 ((P.tk : Int) + 1)) = W1 at *
  have BA : Below W1.heap.size W1 (W1.alloc (.cells #[.int .i64 ((P.tk : Int) + 1)] 3)).drew := (ballo (Below.refl _ _) _).drew
  have vo1 := own_b xl BA
  have hNb : B ≤ (W1.alloc (.cells #[.int .i64 ((P.tk : Int) + 1)] 3)).drew.heap.size := Nat.le_trans (by omega) BA.size
  have T1A := (unhide hT1).b BA
  have hlt1 := (unhide hT1).lt
  have zcA := (BA.cell (p := ⟨pb, 5, none⟩) hlt1).trans x5
  have zfA := (BA.frozen (p := ⟨pb, 5, none⟩) hlt1).trans xf
  go_region_law (refine step_append_lies _ rfl (.tmp 21) (.tmp 26) 38 rfl B 3 i0 (.int .i64 0) 1 8 Tryz.underlying38 (unhide HI) (unhide HZ) (unhide HZ1) (unhide HZ2) rfl (by decide) (.slice p n c) n (ivs P.L) (by simp [Act.eval]) vo1 ⟨W1.heap.size, 0, none⟩ 1 1 [.int .i64 ((P.tk : Int) + 1)] (by simp [Act.eval]) rfl (by intro j u hj; match j, hj with | 0, hj => (simp at hj; subst hj; simp [Addr.add])) (by intro u hu; simp at hu; subst hu; rfl) (by omega) (by unfold maxLen; omega) (by omega) hNb _ rfl ?_; intro g4 c4 w4 o4 q4 hg4 hg5; have e4 := q4.block pb T1A.lt (own_nb vo1 T1A (by decide)); have zc4 : w4.cell? ⟨pb, 5, none⟩ = some (.slice p n c) := (World.cell?_of_block (a := ⟨pb, 5, none⟩) e4).trans zcA; have zf4 : w4.frozen? ⟨pb, 5, none⟩ = false := (World.frozen?_of_block (a := ⟨pb, 5, none⟩) e4).trans zfA)
  all_goals
    have hK1 := (Kp.below (S := fun b => b = pb ∨ OB P.vl b) BA)
    have hK2 : Kp (fun b => b = pb ∨ OB P.vl b) (W1.alloc (.cells #[.int .i64 ((P.tk : Int) + 1)] 3)).drew w4 := ⟨q4.os, q4.tape, q4.output, q4.size, fun k hk hn => q4.block k hk (fun e => hn (Or.inr (by rw [unhide HV]; exact e.symm)))⟩
    have hS := unhide HS1
    have hne : ∀ b, b = pb ∨ b = tm ∨ b = ym ∨ OB P.vr b → w4.heap[b]? = W1.heap[b]? := fun b hb => by
      have hPB : PB pb tm ym { P with tk := P.tk + 1 } b := by
        rcases hb with h | h | h | h
        · exact Or.inl h
        · exact Or.inr (Or.inl h)
        · exact Or.inr (Or.inr (Or.inl h))
        · exact Or.inr (Or.inr (Or.inr (Or.inl h)))
      have hbl := (hS.lt hPB).1
      refine (q4.block b (Nat.lt_of_lt_of_le hbl BA.size) (fun e => ?_)).trans (BA.block b hbl)
      have ho := ob_tag xl (b := b) e.symm
      rcases hb with h | h | h | h
      · exact (ho.1.ne (unhide hT1) (by decide)) h
      · obtain ⟨o, e1, e2⟩ := hS.t.kindless
        exact kindless_ne e1 e2 (h ▸ ho.1) rfl
      · obtain ⟨o, e1, e2⟩ := hS.y.kindless
        exact kindless_ne e1 e2 (h ▸ ho.1) rfl
      · exact (ho.1.ne (ob_tag hS.r h).1 (by decide)) rfl
    have o4' : w4.ownsRow B 3 1 (.slice (some ⟨g4, 0, none⟩) (n + 1) c4) (P.L ++ [P.tk + 1]).length (ivs (P.L ++ [P.tk + 1])) := by
      rw [List.length_append, hn, ivs_snoc, show ((P.tk + 1 : Nat) : Int) = (P.tk : Int) + 1 from by omega]
      exact o4
    have hF := hide (hS.put5 hne o4')
    have hKK := hide ((((unhide K1).trans hK1).trans hK2).trans (Kp.set (S := fun b => b = pb ∨ OB P.vl b) w4 pb 5 (.slice (some ⟨g4, 0, none⟩) (n + 1) c4) (Or.inl rfl)))
    have hG : Hid (∀ j, OB (.slice (some ⟨g4, 0, none⟩) (n + 1) c4) j → OB P.vl j ∨ w.heap.size ≤ j) := fun j hj => by
      obtain rfl : g4 = j := by simpa [OB, Value.ownBlock] using hj
      rcases hg4 with h | h
      · exact Or.inl (by rw [unhide HV]; exact h)
      · right
        have h1 := BA.size
        have h2 := (unhide K1).size
        omega
    have he4 : (w4.setCell ⟨pb, 5, none⟩ (.slice (some ⟨g4, 0, none⟩) (n + 1) c4)).cell? ⟨7, 0, none⟩ = some (.iface 424 (.pointer (some e7))) := (cso (by simp <;> omega)).trans ((World.cell?_of_block (w := W1) (a := ⟨7, 0, none⟩) ((q4.block 7 (by have := BA.size; omega) (fun e => by have := (ob_tag xl (b := 7) e.symm).2; omega)).trans (BA.block 7 (by omega)))).trans he1)
    clear hK1 hK2 hne o4' hS o4 q4 hg4 hg5 e4 zc4 zf4 zcA zfA vo1 BA T1A hNb he1 HS1 hT1 K1 x5 x6 xf xl HI HZ HZ1 HZ2 HV
    generalize w4.setCell ⟨pb, 5, none⟩ (.slice (some ⟨g4, 0, none⟩) (n + 1) c4) = w5 at *
    go_wp2
    go_ret
    exact ⟨rfl, _, unhide hF, unhide hKK, unhide hG⟩
end
end Pl
end Go.Proofs.YtcbmfakjfoggaaaGreatDoor
namespace Go.Proofs.YtcbmfakjfoggaaaGreatDoor
open Go.RowKit Go.Maps
namespace Pl
open Fr Bd Zn Dz Sb Mg
/-- What a depot's Take does: an error's number, or an object. -/
inductive TkA (C : Dc) (S : Ds) (x y : Int) (u : Bool) : Option Nat → Bl → Ds → Prop
  | bad (hx : x < 0 ∨ (S.ws.length : Int) ≤ x) : TkA C S x y u (some 1) (0, 0) S
  | lift (i a b a' b' : Nat) (pl' : List Nat) (xs : List Bl) (o : Bl) (hx : x = i) (hws : S.ws[i]? = some (a, b)) (hl : LdR S.ct a b S.pl a' b' pl') (hc : S.ct a' = xs ++ [o]) : TkA C S x y u none o { S with ws := S.ws.set i (a', b'), pl := pl', ct := upN S.ct a' xs }
  | no (i a b a' b' : Nat) (pl' : List Nat) (n : Nat) (hx : x = i) (hws : S.ws[i]? = some (a, b)) (hl : LdR S.ct a b S.pl a' b' pl') (hc : S.ct a' = []) (hn : n < 10)
    (hr : (n = 1 ∧ ¬ (0 ≤ y ∧ y < C.k)) ∨ ∃ x' : Nat, y = x' ∧ x' < C.k ∧ (bst C.m x' S.ss S.ss.length).1 = none ∧ (C.fr x').find? (fun i => tkC 0 C.mn u (S.nd i) == 2) = none ∧ n = if (C.fr x').any (fun i => tkC 0 C.mn u (S.nd i) == 1) then 6 else 4) : TkA C S x y u (some n) (0, 0) { S with ws := S.ws.set i (a', b'), pl := pl' }
  | old (i a b a' b' : Nat) (pl' : List Nat) (x' j : Nat) (s : Sl) (hx : x = i) (hws : S.ws[i]? = some (a, b)) (hl : LdR S.ct a b S.pl a' b' pl') (hc : S.ct a' = []) (hy : y = x') (hk : x' < C.k) (hb : (bst C.m x' S.ss S.ss.length).1 = some j) (hs : S.ss[j]? = some s) : TkA C S x y u none ((s.nd : Int), s.at_ * 64 + ff s.bm * C.sz) { S with ws := S.ws.set i (a', b'), pl := pl', ss := S.ss.set j { s with bm := s.bm ||| 2 ^ ff s.bm } }
  | new (i a b a' b' : Nat) (pl' : List Nat) (x' n q : Nat) (hx : x = i) (hws : S.ws[i]? = some (a, b)) (hl : LdR S.ct a b S.pl a' b' pl') (hc : S.ct a' = []) (hy : y = x') (hk : x' < C.k) (hb : (bst C.m x' S.ss S.ss.length).1 = none) (hf : (C.fr x').find? (fun i => tkC 0 C.mn u (S.nd i) == 2) = some n) (hnk : n < C.k) (hq : Pos S.ss n (tkA 0 (S.nd n)) q) : TkA C S x y u none ((n : Int), tkA 0 (S.nd n) * 64) { S with ws := S.ws.set i (a', b'), pl := pl', ss := Sb.ins S.ss q ⟨n, tkA 0 (S.nd n), 1⟩, nd := up S.nd n (tkN 0 (S.nd n)) }
/-- An error's value, by its number. -/
def erV (e : Nat → Addr) : Option Nat → Value
  | none => .nilIface
  | some n => errV (e n)
section
variable {C : Dc} {U : Nat → Prop} {X : Nat → Option Obj} {S S' : Ds} {w w' : World} {x y : Int} {u : Bool} {e : Nat → Addr} {ev : Ending} {r : Option Nat} {o : Bl}
theorem take_tka (hT : TkD C.w0 C.N0 U X C.c C.z C.d C.g C.sz C.m C.mn C.lw C.hi C.k C.nb C.fm C.tm C.fr S.Q S.ss S.nd S.ws S.pl S.ct x y u e w ev w') : ∃ r o S', ev = .returned (.tuple #[objV o.1 o.2, erV e r]) ∧ TkA C S x y u r o S' ∧ DK C U X S' w' ∧ UK U w w' := by
  cases hT with
  | bad _ hx hd hu => exact ⟨some 1, (0, 0), S, rfl, .bad hx, hd, hu⟩
  | lift i a b a' b' pl' xs o _ hx hws hl hc hd hu => exact ⟨none, o, _, rfl, .lift i a b a' b' pl' xs o hx hws hl hc, hd, hu⟩
  | cache i a b a' b' pl' _ _ hx hws hl hc hT =>
    cases hT with
    | no n _ hn hd hu hr => exact ⟨some n, (0, 0), _, rfl, .no i a b a' b' pl' n hx hws hl hc hn hr, hd, hu⟩
    | old x' j s _ h1 h2 h3 h4 hd hu => exact ⟨none, _, _, rfl, .old i a b a' b' pl' x' j s hx hws hl hc h1 h2 h3 h4, hd, hu⟩
    | new x' n q a2 _ h1 h2 h3 h4 h5 h6 h7 hd hu =>
      subst h6
      exact ⟨none, _, _, rfl, .new i a b a' b' pl' x' n q hx hws hl hc h1 h2 h3 h4 h5 h7, hd, hu⟩
/-- A depot's Take beside others' blocks. -/
theorem DK.take (h : DK C U X S w) (hN : C.w0.heap.size ≤ C.N0) (he : ErrsM C.w0 e) (x y : Int) (u : Bool) :
    Calls Tryz.prog 30 #[.pointer (some ⟨C.d, 0, none⟩), .int .i64 x, .int .i64 y, .bool u] w fun ev w' => ∃ r o S', ev = .returned (.tuple #[objV o.1 o.2, erV e r]) ∧ TkA C S x y u r o S' ∧ DK C U X S' w' ∧ UK U w w' :=
  (DQ.dtake h hN e he x y u).mono fun _ _ hT => take_tka hT
/-- A depot of one node of which so many objects are taken, and nothing was given back. -/
structure FS (pg : Nat) (C : Dc) (S : Ds) (l : List Bl) : Prop where
  k1 : C.k = 1
  f0 : C.fr 0 = [0]
  mm : 1 ≤ C.m ∧ C.m ≤ 64
  pl : S.pl = []
  ct : ∀ t, S.ct t = []
  fi : Fill pg C.m (S.nd 0) S.ss l.length
  nd : l.Nodup
  tk : ∀ o ∈ l, Tkn C.m C.sz S.ss o.1 o.2
theorem ld_nil {ct : Nat → List Bl} {a b a' b' : Nat} {pl pl' : List Nat} (h : LdR ct a b pl a' b' pl') (hp : pl = []) : pl' = [] := by
  cases h with
  | keep _ _ => exact hp
  | swap _ _ _ => exact hp
  | none _ _ => rfl
  | pile p t _ _ => simp at hp
theorem tkC_free {o mn : Int} {u : Bool} {d : Nd} (_hok : d.ok) (hu : u = true ∨ mn ≤ 0) (h : tkC o mn u d ≠ 2) : fit o d.F = none := by
  cases hf : fit o d.F with
  | none => rfl
  | some x =>
    exfalso
    have hp : 0 ≤ pgs (takeF o x d.F) := pgs_pos.1
    have : ¬ (u = false ∧ pgs (takeF o x d.F) < mn) := by
      rintro ⟨h1, h2⟩
      rcases hu with e | e
      · rw [e] at h1; cases h1
      · omega
    simp [tkC, hf, this] at h
theorem tkC_low {o mn : Int} {u : Bool} {d : Nd} (_hok : d.ok) (hu : u = true ∨ mn ≤ 0) : (tkC o mn u d == 1) = false := by
  cases hf : fit o d.F with
  | none => simp [tkC, hf]
  | some x =>
    have hp : 0 ≤ pgs (takeF o x d.F) := pgs_pos.1
    have : ¬ (u = false ∧ pgs (takeF o x d.F) < mn) := by
      rintro ⟨h1, h2⟩
      rcases hu with e | e
      · rw [e] at h1; cases h1
      · omega
    simp [tkC, hf, this]
/-- Take there: a fresh object while there is one, else ErrFull. -/
theorem FS.take {pg : Nat} {l : List Bl} (h : FS pg C S l) (hD : DK C U X S w) (hu : u = true ∨ C.mn ≤ 0) (hx : 0 ≤ x ∧ x < S.ws.length) (hT : TkA C S x 0 u r o S') :
    (l.length < pg * C.m ∧ r = none ∧ o ∉ l ∧ FS pg C S' (l ++ [o])) ∨ (l.length = pg * C.m ∧ r = some 4 ∧ FS pg C S' l) := by
  obtain ⟨ly, bs, q, f, rb, hP, h2, h3⟩ := DQ.ex hD
  have hmm := hP.c.mm
  have hb : ∀ s ∈ S.ss, s.bm < 2 ^ C.m := fun s hs => (hP.c.ok s hs).2.2.1
  have hso := hP.c.so
  have how := hP.ow
  have hF := h.fi
  have hok := hF.ok
  have hpl := h.pl
  have k1 := h.k1
  cases hT with
  | bad hx' => omega
  | lift i a b a' b' pl' xs o _ hws hl hc => rw [h.ct] at hc; simp at hc
  | no i a b a' b' pl' n hx' hws hl hc hn hr =>
    right
    rcases hr with ⟨_, h6⟩ | ⟨x', h4, h5, h6, h7, h8⟩
    · omega
    · obtain rfl : x' = 0 := by omega
      rw [h.f0] at h7 h8
      have h9 : tkC 0 C.mn u (S.nd 0) ≠ 2 := by
        intro h
        simp [h] at h7
      have h10 := fit0_nil hok (tkC_free hok hu h9)
      have h11 := totL_full C.m S.ss (bst_all h6 hF.nd)
      have h12 := hF.pg
      rw [h10] at h12
      simp only [pgs] at h12
      have h13 : S.ss.length = pg := by omega
      rw [h13, hF.tt] at h11
      have h14 : n = 4 := by rw [h8]; simp [tkC_low hok hu]
      subst h14
      exact ⟨h11, rfl, k1, h.f0, h.mm, ld_nil hl hpl, h.ct, hF, h.nd, h.tk⟩
  | old i a b a' b' pl' x' j s hx' hws hl hc hy hk h3 h4 =>
    left
    obtain rfl : x' = 0 := by omega
    obtain ⟨hj, hnd, hpop⟩ := bst_some h3
    rw [getD_at h4] at hnd hpop
    have hsm := hb s (List.mem_of_getElem? h4)
    obtain ⟨f1, f2, f3⟩ := ff_spec hsm h.mm.2 hpop
    have e1 := totL_set C.m S.ss j s { s with bm := s.bm ||| 2 ^ ff s.bm } h4
    simp only [pop_setbit hsm h.mm.2 hpop] at e1
    have hnew : ¬ Tkn C.m C.sz S.ss (s.nd : Int) (s.at_ * 64 + ff s.bm * C.sz) := by
      rintro ⟨j', i', s', es, hi, hbt, hn, ha⟩
      have hm1 := mul_in hmm.1 hmm.2.2 hi
      have hm2 := mul_in hmm.1 hmm.2.2 f1
      simp only at hn ha
      have e2 : s.at_ = s'.at_ := by omega
      have e3 : j = j' := sorted_uniq hso h4 es (by omega) e2
      subst e3
      rw [h4] at es
      cases es
      have e4 : (ff s.bm : Int) * C.sz = i' * C.sz := by omega
      have e5 : (ff s.bm : Int) = i' := Int.eq_of_mul_eq_mul_right (by omega) e4
      have e6 : ff s.bm = i' := by omega
      rw [← e6, f2] at hbt
      cases hbt
    have hnl : ((s.nd : Int), s.at_ * 64 + ff s.bm * C.sz) ∉ l := fun hm => hnew (h.tk _ hm)
    have hlt := totL_lt C.m h4 hpop
    have hle : S.ss.length ≤ pg := by have := hF.pg; have := (pgs_pos (l := (S.nd 0).F)).1; omega
    have hmul : S.ss.length * C.m ≤ pg * C.m := Nat.mul_le_mul_right _ hle
    refine ⟨by have := hF.tt; omega, rfl, hnl, k1, h.f0, h.mm, ld_nil hl hpl, h.ct, ⟨hok, by simp only [List.length_set]; exact hF.pg, by have := hF.tt; simp only [List.length_append, List.length_singleton]; omega, fun s' hs' => ?_⟩, ?_, ?_⟩
    · rcases List.mem_or_eq_of_mem_set hs' with q | rfl
      · exact hF.nd s' q
      · exact hnd
    · exact List.nodup_append.2 ⟨h.nd, by simp, fun p hp q hq e => by
        simp only [List.mem_cons, List.not_mem_nil, or_false] at hq
        exact hnl (by rw [← hq, ← e]; exact hp)⟩
    · intro p hp
      rcases List.mem_append.1 hp with hp | hp
      · exact (h.tk p hp).or h4 _
      · simp only [List.mem_cons, List.not_mem_nil, or_false] at hp
        subst hp
        exact ⟨j, ff s.bm, _, List.getElem?_set_self hj, f1, by simp [Nat.testBit_or], rfl, rfl⟩
  | new i a b a' b' pl' x' n q hx' hws hl hc hy hk h3 h4 h5 h7 =>
    left
    obtain rfl : n = 0 := by omega
    obtain rfl : x' = 0 := by omega
    have htk : tkC 0 C.mn u (S.nd 0) = 2 := by
      have := List.find?_some h4
      simpa using this
    obtain ⟨y0, hf⟩ : ∃ y0, fit 0 (S.nd 0).F = some y0 := by
      cases hf : fit 0 (S.nd 0).F with
      | none => simp [tkC, hf] at htk
      | some y0 => exact ⟨y0, rfl⟩
    obtain ⟨hy1, hy2⟩ := fit_some hf
    have e1 : (tkN 0 (S.nd 0)).F = takeF 0 y0 (S.nd 0).F := by simp [tkN, hf]
    have e2 := pgs_takeF (by omega) hok.2.2 hy1 hy2
    have e3 : pw 0 = 1 := rfl
    have hpg := hF.pg
    have hne : 1 ≤ pgs (S.nd 0).F := (pgs_pos (l := (S.nd 0).F)).2 (List.ne_nil_of_mem hy1)
    have hnew : ¬ Tkn C.m C.sz S.ss ((0 : Nat) : Int) (tkA 0 (S.nd 0) * 64) := by
      rintro ⟨j', i', s', es, hi, hbt, hn, ha⟩
      have hm1 := mul_in hmm.1 hmm.2.2 hi
      simp only at hn ha
      have hs' := List.mem_of_getElem? es
      have := how.fresh hok htk s' hs' (hF.nd s' hs')
      omega
    have hnl : (((0 : Nat) : Int), tkA 0 (S.nd 0) * 64) ∉ l := fun hm => hnew (h.tk _ hm)
    have hle : S.ss.length + 1 ≤ pg := by omega
    have hmul : (S.ss.length + 1) * C.m ≤ pg * C.m := Nat.mul_le_mul_right _ hle
    have htl := totL_le C.m S.ss
    have hm1 := h.mm.1
    rw [Nat.add_mul] at hmul
    have htt := hF.tt
    have hok' : (tkN 0 (S.nd 0)).ok := tkN_ok (by omega) hok
    refine ⟨by omega, rfl, hnl, k1, h.f0, h.mm, ld_nil hl hpl, h.ct, ⟨by simp only [up_at]; exact hok', ?_, ?_, fun s hs => ?_⟩, ?_, ?_⟩
    · simp only [up_at, ins_length]
      rw [e1]; push_cast; omega
    · simp only [totL_ins, List.length_append, List.length_singleton]
      have e4 : pop 1 C.m = 1 := by
        have h0 := pop_setbit (x := 0) (m := C.m) (Nat.two_pow_pos _) h.mm.2 (by rw [pop_of_zero]; omega)
        rw [ff_zero, pop_of_zero] at h0
        exact h0
      omega
    · rcases ins_mem.mp hs with rfl | q
      · rfl
      · exact hF.nd s q
    · exact List.nodup_append.2 ⟨h.nd, by simp, fun p hp q hq e => by
        simp only [List.mem_cons, List.not_mem_nil, or_false] at hq
        exact hnl (by rw [← hq, ← e]; exact hp)⟩
    · intro p hp
      rcases List.mem_append.1 hp with hp | hp
      · exact (h.tk p hp).ins h7.1 _
      · simp only [List.mem_cons, List.not_mem_nil, or_false] at hp
        subst hp
        exact ⟨q, 0, ⟨0, tkA 0 (S.nd 0), 1⟩, by rw [ins_get _ h7.1, if_neg (by omega), if_pos rfl], by omega, (show (1 : Nat).testBit 0 = true by decide), rfl, by simp⟩
end
end Pl
end Go.Proofs.YtcbmfakjfoggaaaGreatDoor
