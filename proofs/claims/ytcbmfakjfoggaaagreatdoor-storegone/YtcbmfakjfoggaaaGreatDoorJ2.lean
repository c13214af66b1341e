/- A store, its pool and their depot, new: shelf; a store of one block and of two; the closed fact about stores. -/
import Derived.Test.YtcbmfakjfoggaaaGreatDoorJ1
import Derived.Test.YtcbmfakjfoggaaaGreatDoorI32
import Derived.Test.YtcbmfakjfoggaaaGreatDoorI35
namespace Go.Proofs.YtcbmfakjfoggaaaGreatDoor
open Go.RowKit Go.Maps
namespace Pl
open Fr Bd Zn Dz Sb Mg
section
variable {B : Nat} {C : Dc} {ab7 : Nat → Prop} {X : Nat → Option Obj} {Y F ym pg : Nat} {S S' : Ds} {P P' : Ps} {w w' : World} {e : Nat → Addr} {x y : Int} {u : Bool} {r : Option Nat} {o : Bl} {l : List Bl}
theorem FS.takeA {pg : Nat} {l : List Bl} (h : FS pg C S l) (hA : FA C S) (hu : u = true ∨ C.mn ≤ 0) (hx : 0 ≤ x ∧ x < S.ws.length) (hT : mV C S x 0 u r o S') :
    (l.length < pg * C.m ∧ r = none ∧ o ∉ l ∧ FS pg C S' (l ++ [o])) ∨ (l.length = pg * C.m ∧ r = some 4 ∧ FS pg C S' l) := by
  have f_ := hA.mm
  have J : ∀ s ∈ S.Q, s.bm < 2 ^ C.m := fun s hs => (hA.ok s hs).2.2.1
  have A5 := hA.so
  have how := hA.ow
  have hF := h.fi
  have eH := hF.ok
  have hpl := h.pl
  have k1 := h.k1
  cases hT with
  | bad mN => omega
  | lift i a b a' b' dC xs o _ dR hl K => rw [h.ct] at K; simp at K
  | no i a b a' b' dC n mN dR hl K hn hr =>
    right
    rcases hr with ⟨_, h6⟩ | ⟨x', h4, h5, h6, h7, h8⟩
    · omega
    · obtain rfl : x' = 0 := by omega
      rw [h.f0] at h7 h8
      have h9 : fA 0 C.mn u (S.V 0) ≠ 2 := by
        intro h
        simp [h] at h7
      have h10 := Ja eH (Ji eH hu h9)
      have h11 := uo C.m S.Q (Nn h6 hF.V)
      have Hh := hF.pg
      rw [h10] at Hh
      simp only [fS] at Hh
      have h13 : S.Q.length = pg := by omega
      rw [h13, hF.tt] at h11
      have h14 : n = 4 := by rw [h8]; simp [Nu eH hu]
      subst h14
      exact ⟨h11, rfl, k1, h.f0, h.mm, A3 hl hpl, h.ct, hF, h.V, h.tk⟩
  | old i a b a' b' dC x' j s mN dR hl K hy D h3 h4 =>
    left
    obtain rfl : x' = 0 := by omega
    obtain ⟨E, hnd, jR⟩ := iP h3
    rw [getD_at h4] at hnd jR
    have hsm := J s (List.mem_of_getElem? h4)
    obtain ⟨f1, f2, f3⟩ := ky hsm h.mm.2 jR
    have e1 := yc C.m S.Q j s { s with bm := s.bm ||| 2 ^ ff s.bm } h4
    simp only [rL hsm h.mm.2 jR] at e1
    have gY : ¬ iM C.m C.sz S.Q (s.V : Int) (s.at_ * 64 + ff s.bm * C.sz) := by
      rintro ⟨j', i', s', es, hi, Gz, hn, ha⟩
      have su := jA f_.1 f_.2.2 hi
      have hm2 := jA f_.1 f_.2.2 f1
      simp only at hn ha
      have e2 : s.at_ = s'.at_ := by omega
      have e3 : j = j' := lO A5 h4 es (by omega) e2
      subst e3
      rw [h4] at es
      cases es
      have e4 : (ff s.bm : Int) * C.sz = i' * C.sz := by omega
      have e5 : (ff s.bm : Int) = i' := Int.eq_of_mul_eq_mul_right (by omega) e4
      have e6 : ff s.bm = i' := by omega
      rw [← e6, f2] at Gz
      cases Gz
    have kn : ((s.V : Int), s.at_ * 64 + ff s.bm * C.sz) ∉ l := fun hm => gY (h.tk _ hm)
    have hlt := Nl C.m h4 jR
    have hle : S.Q.length ≤ pg := by have := hF.pg; have := (mD (l := (S.V 0).aca)).1; omega
    have hmul : S.Q.length * C.m ≤ pg * C.m := Nat.mul_le_mul_right _ hle
    refine ⟨by have := hF.tt; omega, rfl, kn, k1, h.f0, h.mm, A3 hl hpl, h.ct, ⟨eH, by simp only [List.length_set]; exact hF.pg, by have := hF.tt; simp only [List.length_append, List.length_singleton]; omega, fun s' hs' => ?_⟩, ?_, ?_⟩
    · rcases List.mem_or_eq_of_mem_set hs' with q | rfl
      · exact hF.V s' q
      · exact hnd
    · exact List.nodup_append.2 ⟨h.V, by simp, fun p hp q hq e => by
        simp only [List.mem_cons, List.not_mem_nil, or_false] at hq
        exact kn (by rw [← hq, ← e]; exact hp)⟩
    · intro p hp
      rcases List.mem_append.1 hp with hp | hp
      · exact (h.tk p hp).or h4 _
      · simp only [List.mem_cons, List.not_mem_nil, or_false] at hp
        subst hp
        exact ⟨j, ff s.bm, _, List.getElem?_set_self E, f1, by simp [Nat.testBit_or], rfl, rfl⟩
  | new i a b a' b' dC x' n q mN dR hl K hy D h3 h4 h5 h7 =>
    left
    obtain rfl : n = 0 := by omega
    obtain rfl : x' = 0 := by omega
    have kV : fA 0 C.mn u (S.V 0) = 2 := by
      have := List.find?_some h4
      simpa using this
    obtain ⟨y0, hf⟩ : ∃ y0, fit 0 (S.V 0).aca = some y0 := by
      cases hf : fit 0 (S.V 0).aca with
      | none => simp [fA, hf] at kV
      | some y0 => exact ⟨y0, rfl⟩
    obtain ⟨wK, uV⟩ := iQ hf
    have e1 : (kC 0 (S.V 0)).aca = gV 0 y0 (S.V 0).aca := by simp [kC, hf]
    have e2 := tU (by omega) eH.2.2 wK uV
    have e3 : pw 0 = 1 := rfl
    have Gw := hF.pg
    have hne : 1 ≤ fS (S.V 0).aca := (mD (l := (S.V 0).aca)).2 (List.ne_nil_of_mem wK)
    have gY : ¬ iM C.m C.sz S.Q ((0 : Nat) : Int) (mO 0 (S.V 0) * 64) := by
      rintro ⟨j', i', s', es, hi, Gz, hn, ha⟩
      have su := jA f_.1 f_.2.2 hi
      simp only at hn ha
      have hs' := List.mem_of_getElem? es
      have := how.fresh eH kV s' hs' (hF.V s' hs')
      omega
    have kn : (((0 : Nat) : Int), mO 0 (S.V 0) * 64) ∉ l := fun hm => gY (h.tk _ hm)
    have hle : S.Q.length + 1 ≤ pg := by omega
    have hmul : (S.Q.length + 1) * C.m ≤ pg * C.m := Nat.mul_le_mul_right _ hle
    have uX := qJ C.m S.Q
    have su := h.mm.1
    rw [Nat.add_mul] at hmul
    have htt := hF.tt
    have aaQ : (kC 0 (S.V 0)).ok := Au (by omega) eH
    refine ⟨by omega, rfl, kn, k1, h.f0, h.mm, A3 hl hpl, h.ct, ⟨by simp only [gJ]; exact aaQ, ?_, ?_, fun s hs => ?_⟩, ?_, ?_⟩
    · simp only [gJ, ek]
      rw [e1]; push_cast; omega
    · simp only [yb, List.length_append, List.length_singleton]
      have e4 : pop 1 C.m = 1 := by
        have h0 := rL (x := 0) (m := C.m) (Nat.two_pow_pos _) h.mm.2 (by rw [iT]; omega)
        rw [CN, iT] at h0
        exact h0
      omega
    · rcases nV.mp hs with rfl | q
      · rfl
      · exact hF.V s q
    · exact List.nodup_append.2 ⟨h.V, by simp, fun p hp q hq e => by
        simp only [List.mem_cons, List.not_mem_nil, or_false] at hq
        exact kn (by rw [← hq, ← e]; exact hp)⟩
    · intro p hp
      rcases List.mem_append.1 hp with hp | hp
      · exact (h.tk p hp).ins h7.1 _
      · simp only [List.mem_cons, List.not_mem_nil, or_false] at hp
        subst hp
        exact ⟨q, 0, ⟨0, mO 0 (S.V 0), 1⟩, by rw [cF _ h7.1, if_neg (by omega), if_pos rfl], by omega, (show (1 : Nat).testBit 0 = true by decide), rfl, by simp⟩
theorem FS.tkl {R : List Bl} (h : FS pg C S []) (hA : FA C S) (hx : 0 < S.ws.length) (hT : yP C 0 S R S') : R.length ≤ pg * C.m ∧ FS pg C S' R ∧ FA C S' ∧ S'.ws.length = S.ws.length := by
  induction hT with
  | nil => exact ⟨Nat.zero_le _, h, hA, rfl⟩
  | snoc S1 S2 l o hl hT hF ih =>
    obtain ⟨i1, i2, i3, i4⟩ := ih
    rcases i2.takeA i3 (Or.inl rfl) (by omega) hT with ⟨a, _, _, d⟩ | ⟨_, b, _⟩
    · exact ⟨by simp only [List.length_append, List.length_singleton]; omega, d, hF, (Jn hT).trans i4⟩
    · cases b
structure FQ (pg : Nat) (C : Dc) (l : List Bl) (S : Ds) (P : Ps) : Prop where
  fs : FS pg C S l
  sub : ∀ o ∈ P.R ++ P.T, o ∈ l
  V : (P.R ++ P.T).Nodup
  mn : C.mn = 0
  ws : S.ws.length = 2
  L : P.L = []
  ab6 : P.ab6 = []
  q : P.q ≤ l.length
  tk : P.tk = 0
  most : P.most ≤ 16
  ab5 : S.ab5 = 0
theorem take_q (h : PD B C ab7 X Y F ym S P w) (hF : FQ pg C l S P) (hlt : l.length < pg * C.m) (hN : C.w0.heap.size ≤ C.N0) (he : dM C.w0 e) (Hh : 11 < B) (hx : 0 ≤ x ∧ x < 2) (hl : l.length < 1000000) :
    Calls Tryz.prog 15 #[.pointer (some ⟨Y, 0, none⟩), .int .i64 x, .int .i64 0] w fun ev w' => ∃ (o : Bl) (S' : Ds) (P' : Ps), ev = .returned (.tuple #[bz o.1 o.2, .nilIface]) ∧ PD B C ab7 X Y F ym S' P' w' ∧ PF ab7 P P' w w' ∧ FQ pg C (l ++ [o]) S' P' := by
  have Cr : C.mn ≤ 0 := by rw [hF.mn]; omega
  have hx2 : 0 ≤ x ∧ x < S.ws.length := by have := hF.ws; omega
  have hy : (0 : Int) ≤ 0 ∧ (0 : Int) < C.k := by have := hF.fs.k1; omega
  have hA := h.k.fa
  refine (yu h hN he Hh hF.L hx2 hy (by have := hF.q; omega) (by have := hF.tk; omega) (fun o S' U X W hT um => ?_) (fun o ho => ⟨fun hm => (List.nodup_append.1 hF.V).2.2 o ho o hm rfl, hF.fs.w2 h.k (hF.sub o (by simp [ho]))⟩)).mono ?_
  · rcases hF.fs.takeA hA (Or.inr Cr) hx2 hT with ⟨_, _, h3, h4⟩ | ⟨_, O, _⟩
    · exact ⟨fun hm => h3 (hF.sub o (by simp [hm])), h4.w2 um (by simp)⟩
    · cases O
  rintro ev w' ⟨r, o, S', hT, G⟩
  rcases hF.fs.takeA hA (Or.inr Cr) hx2 hT with ⟨_, O, h3, h4⟩ | ⟨O, _⟩
  case inr => omega
  rcases G with ⟨_, rfl, um, SB⟩ | ⟨hr, _⟩ | ⟨hr, _⟩
  · have ho : o ∉ P.R ++ P.T := fun hm => h3 (hF.sub o hm)
    refine ⟨o, S', _, rfl, um, SB, ⟨h4, fun p hp => ?_, ?_, hF.mn, (Jn hT).trans hF.ws, hF.L, hF.ab6, by have := hF.q; simp only [List.length_append, List.length_singleton]; omega, hF.tk, hF.most, (qi hT).trans hF.ab5⟩⟩
    · simp only [List.mem_append, List.mem_singleton] at hp ⊢
      rcases hp with hp | hp | hp
      · exact Or.inl (hF.sub p (by simp [hp]))
      · exact Or.inl (hF.sub p (by simp [hp]))
      · exact Or.inr hp
    · simp only
      rw [← List.append_assoc]
      refine List.nodup_append.2 ⟨hF.V, by simp, fun a ha b J e => ?_⟩
      simp only [List.mem_singleton] at J
      exact ho (by rw [← J, ← e]; exact ha)
  · exact absurd O hr
  · exact absurd O hr
end
end Pl
end Go.Proofs.YtcbmfakjfoggaaaGreatDoor
namespace Go.Proofs.YtcbmfakjfoggaaaGreatDoor
open Go.RowKit Go.Maps
namespace Pl
open Fr Bd Zn Dz Sb Mg
def SW (ab5 : Ds → Ps → Prop) (B : Nat) (C : Dc) (ab7 : Nat → Prop) (Y F ym s m : Nat) (Z99 : Ss9) (w : World) : Prop := ∃ X S P, SP9 B C ab7 X Y F ym S P s m Z99 w ∧ ab5 S P
section
variable {ab5 Q' : Ds → Ps → Prop} {B : Nat} {C : Dc} {ab7 V' : Nat → Prop} {X : Nat → Option Obj} {Y F ym m s : Nat} {S S' : Ds} {P P' : Ps} {w w' : World} {Z99 Z' : Ss9} {e : Nat → Addr}
theorem SW.b (h : SW ab5 B C ab7 Y F ym s m Z99 w) (J : Below w.heap.size w w') : SW ab5 B C ab7 Y F ym s m Z99 w' := by
  obtain ⟨X, S, P, G, O⟩ := h
  exact ⟨X, S, P, G.b J, O⟩
theorem SW.low (h : SW ab5 B C ab7 Y F ym s m Z99 w) : Below C.w0.heap.size C.w0 w := by
  obtain ⟨X, S, P, G, O⟩ := h
  exact DQ.b0 G.d.k
theorem SW.k (h : SW ab5 B C ab7 Y F ym s m Z99 w) : SM9 B w s Y m Z99 := by
  obtain ⟨X, S, P, G, O⟩ := h
  exact G.k
theorem SW.less (h : SW ab5 B C ab7 Y F ym s m Z99 w) (hv : ∀ j, V' j → ab7 j) : SW ab5 B C V' Y F ym s m Z99 w := by
  obtain ⟨X, S, P, G, O⟩ := h
  exact ⟨X, S, P, G.less hv, O⟩
theorem SW.more (h : SW ab5 B C ab7 Y F ym s m Z99 w) (J : Below w.heap.size w w') {b : Nat} (hw : w.heap.size ≤ b) (ht : Tag w' b 34) : SW ab5 B C (fun j => ab7 j ∨ j = b) Y F ym s m Z99 w' := by
  obtain ⟨X, S, P, G, O⟩ := h
  exact ⟨X, S, P, G.more J hw ht, O⟩
theorem SW.cell (h : SW ab5 B C ab7 Y F ym s m Z99 w) {b : Nat} (ht : Tag w b 192) (hB : B ≤ b) (v : Value) (hZ : SM9 B (w.setCell ⟨b, 3, none⟩ v) s Y m Z') : SW ab5 B C ab7 Y F ym s m Z' (w.setCell ⟨b, 3, none⟩ v) := by
  obtain ⟨X, S, P, G, O⟩ := h
  exact ⟨_, S, P, G.own (Kp.set w b 3 v ⟨Nat.le_trans G.d.hB hB, Or.inl ⟨192, ht, by decide⟩⟩) hZ, O⟩
theorem SW.row (h : SW ab5 B C ab7 Y F ym s m Z99 w) {q : Nat} (ht : Tag w q 5) (hB : B ≤ q) (cs : Array Value) (hZ : SM9 B (w.setRow q cs) s Y m Z') : SW ab5 B C ab7 Y F ym s m Z' (w.setRow q cs) := by
  obtain ⟨X, S, P, G, O⟩ := h
  have oG := Nat.le_trans G.d.hB hB
  exact ⟨_, S, P, G.own ⟨rfl, rfl, rfl, by simp, fun j _ hn => setRow_other _ _ _ _ (fun e => hn ⟨e ▸ oG, Or.inl ⟨5, e ▸ ht, by decide⟩⟩)⟩ hZ, O⟩
theorem hold_sw (h : SW ab5 B C ab7 Y F ym s m Z99 w) {t : Int} (ht : (Lit.int .i64 t).wf = true) {b : Nat} (hf : Z99.f t = some b) (hn : (Z99.g b).n < 16) : Calls Tryz.prog 37 #[.pointer (some ⟨s, 0, none⟩), .int .i64 t] w fun ev w' => ev = .returned .nilIface ∧ SW ab5 B C ab7 Y F ym s m { Z99 with g := upG Z99.g b { Z99.g b with n := (Z99.g b).n + 1 } } w' := by
  refine (hold_ok h.k ht hf hn).mono ?_
  rintro ev w' ⟨rfl, rfl, hZ⟩
  obtain ⟨k1, k2, k3, _⟩ := h.k.k t b hf
  exact ⟨rfl, h.cell k1.tg k2 _ hZ⟩
theorem write_sw (h : SW ab5 B C ab7 Y F ym s m Z99 w) {t : Int} (ht : (Lit.int .i64 t).wf = true) {b : Nat} (hf : Z99.f t = some b) (hn : (Z99.g b).n = 1) {a : Nat} (x : ByteArray) (hle : a + x.size ≤ Z99.sz) : Calls Tryz.prog 36 #[.pointer (some ⟨s, 0, none⟩), .int .i64 t, .int .i64 a, .string x] w fun ev w' => ev = .returned .nilIface ∧ SW ab5 B C ab7 Y F ym s m { Z99 with g := upG Z99.g b { Z99.g b with l := spl (Z99.g b).l a x.data.toList } } w' := by
  refine (write_ok h.k ht hf hn x hle).mono ?_
  rintro ev w' ⟨rfl, rfl, hZ⟩
  obtain ⟨k1, k2, k3, _⟩ := h.k.k t b hf
  exact ⟨rfl, h.row k1.rt k3 _ hZ⟩
def Gives (ab5 : Ds → Ps → Prop) (Q' : Bl → Ds → Ps → Prop) (B : Nat) (C : Dc) (Y F ym : Nat) (x y : Int) : Prop := ∀ X ab7 S P W, PD B C ab7 X Y F ym S P W → ab5 S P → Calls Tryz.prog 15 #[.pointer (some ⟨Y, 0, none⟩), .int .i64 x, .int .i64 y] W fun ev w' => ∃ (o : Bl) (S' : Ds) (P' : Ps), ev = .returned (.tuple #[bz o.1 o.2, .nilIface]) ∧ PD B C ab7 X Y F ym S' P' w' ∧ PF ab7 P P' W w' ∧ Q' o S' P'
theorem take_sw {Q' : Bl → Ds → Ps → Prop} (h : SW ab5 B C ab7 Y F ym s m Z99 w) (he : dM C.w0 e) (Hh : 11 < C.w0.heap.size) {x y : Int} (hq : Z99.q < 1000000) (hlast : Z99.last < 1000000) (HT : Gives ab5 Q' B C Y F ym x y) :
    Calls Tryz.prog 35 #[.pointer (some ⟨s, 0, none⟩), .int .i64 x, .int .i64 y] w fun ev w' => ev = .returned (.tuple #[.int .i64 ((Z99.last : Int) + 1), .nilIface]) ∧ ∃ (o : Bl) (b q' : Nat),
      SW (Q' o) B C ab7 Y F ym s m { Z99 with last := Z99.last + 1, q := Z99.q + 1, n := Z99.n + 1, f := upI Z99.f ((Z99.last : Int) + 1) (some b), g := upG Z99.g b ⟨o, List.replicate Z99.sz 0, 1, q'⟩ } w' := by
  obtain ⟨X, S, P, G, O⟩ := h
  refine (stake1_ok G he Hh Q' hq hlast (fun V' W hS => HT X V' S P W hS.d O)).mono ?_
  rintro ev w' ⟨rfl, o, S', P', b, q', X', hQ, hSP⟩
  exact ⟨rfl, o, b, q', X', S', P', hSP, hQ⟩
theorem own_sw {Q' : Bl → Ds → Ps → Prop} (h : SW ab5 B C ab7 Y F ym s m Z99 w) (he : dM C.w0 e) (Hh : 11 < C.w0.heap.size) {x y : Int} (hq : Z99.q < 1000000) (hlast : Z99.last < 1000000) (HT : Gives ab5 Q' B C Y F ym x y)
    {t : Int} (ht : (Lit.int .i64 t).wf = true) {b : Nat} (hf : Z99.f t = some b) (hn : 1 < (Z99.g b).n) :
    Calls Tryz.prog 39 #[.pointer (some ⟨s, 0, none⟩), .int .i64 x, .int .i64 y, .int .i64 t] w fun ev w' => ev = .returned (.tuple #[.int .i64 ((Z99.last : Int) + 1), .nilIface]) ∧ ∃ (o : Bl) (b' q' : Nat), b' ≠ b ∧
      SW (Q' o) B C ab7 Y F ym s m { Z99 with last := Z99.last + 1, q := Z99.q + 1, n := Z99.n + 1, f := upI Z99.f ((Z99.last : Int) + 1) (some b'), g := upG (upG Z99.g b' ⟨o, (Z99.g b).l, 1, q'⟩) b { Z99.g b with n := (Z99.g b).n - 1 } } w' := by
  obtain ⟨X, S, P, G, O⟩ := h
  refine (own_more G he Hh Q' hq hlast (fun V' W hS => HT X V' S P W hS.d O) ht hf hn).mono ?_
  rintro ev w' ⟨rfl, o, S', P', b', q', X', hQ, J, hSP⟩
  exact ⟨rfl, o, b', q', J, X', S', P', hSP, hQ⟩
end
end Pl
end Go.Proofs.YtcbmfakjfoggaaaGreatDoor
namespace Go.Proofs.YtcbmfakjfoggaaaGreatDoor
open Go.RowKit Go.Maps
namespace Pl
open Fr Bd Zn Dz Sb Mg Rd
section
variable {C : Dc} {M : Mc} {ab7 U : Nat → Prop} {X : Nat → Option Obj} {S : Ds} {P P' : Ps} {w w' : World}
theorem AD.pf (h : AD C M U S w) (hf : PF ab7 P P' w w') (hU : ∀ j, U j → ab7 j) (hl : ∀ j, ¬ OB P.vl j) : AD C M U S w' := by
  obtain ⟨rb, rt, jd, hr⟩ := h.r
  have hs : ∀ ts : List TypeId, (∀ t ∈ ts, t ∈ Ug) → eh ts w w' := fun ts h' b t hm ht => hf.s b t (h' t hm) ht
  have hs2 := hs [252, 253, 38, 333, 291] (by decide)
  have hz' : RZ w' M.rz C.mn C.lw C.hi C.k jd S.V C.fr := by
    have G := hr.hz
    have cl := fun j => bN hs2 (by simp) G.tg j
    obtain ⟨g, c, e1, o1⟩ := G.cn
    obtain ⟨g2, c2, rows, e2, o2, r2⟩ := G.cf
    refine ⟨(cl 2).trans G.m2, (cl 3).trans G.m3, (cl 4).trans G.m4, ⟨g, c, (cl 5).trans e1, bK o1 hs2 (by simp)⟩, ⟨g2, c2, rows, (cl 6).trans e2, bK o2 hs2 (by simp), fun i hi => ?_⟩, cY hs2 (by simp) G.tg, fun i hi => oo (G.rb i hi) (hs [291] (by decide)) (hs2 _ 333 (by simp) (G.rb i hi).tg) hf.z, G.ok, G.ne⟩
    obtain ⟨h', d, e3, o3⟩ := r2 i hi
    refine ⟨h', d, e3, aI o3 (fun b J => ?_)⟩
    obtain rfl : h' = b := by simpa [Value.ownBlock] using J
    exact hf.l h' (fV o3) (hl h')
  exact ⟨⟨rb, rt, jd, hz', hr.K.same (hs _ (by decide)), hr.g, fun g cp e => hr.r g cp ((World.cell?_of_block (w := w) (a := ⟨M.rz, 5, none⟩) (hs2 M.rz 252 (by simp) hr.hz.tg)).symm.trans e)⟩, h.d.keep (fun k D => hf.v k (hU k D)) (hs _ (by decide)) hf.z (fun _ h => h), fun k D => (h.u k D).blk (hf.v k (hU k D))⟩
theorem Yp (h : QK C M (fun _ => False) (fun _ => False) X S S.ms w) : AD C M (fun _ => False) S w := ⟨h.r, h.d, fun _k D => D.elim⟩
theorem Qp (h : QK C M (fun _ => False) (fun _ => False) X S S.ms w) : DK C (fun _ => False) X S w := DQ.less h.q (fun _j E => E.elim)
end
end Pl
end Go.Proofs.YtcbmfakjfoggaaaGreatDoor
namespace Go.Proofs.YtcbmfakjfoggaaaGreatDoor
open Go.RowKit Go.Maps
namespace Pl
open Fr Bd Zn Dz Sb Mg Rd
structure Shf (N sz : Int) (w0 : World) (C : Dc) (M : Mc) (S : Ds) (P : Ps) (R : Rs) (l : List Bl) (U : Nat → Prop) (X : Nat → Option Obj) (Y F ym aK s m ms : Nat) (w : World) : Prop where
  hw : C.w0 = w0
  hN : C.w0.heap.size ≤ C.N0
  D : C.k = 1
  hm : (C.m : Int) = 64 / sz
  fr : ∀ x, x < C.k → (C.fr x).length = C.k ∧ ∀ i ∈ C.fr x, i < C.k
  q : FQ N.toNat C l S P
  l1 : l.length = 1
  hP : ∃ vr, P = { pG 1 with R := l, vr := vr }
  hR : ∃ vR, R = { Bz 1 with R := l, vR := vR }
  p : SP9 C.w0.heap.size C (fun j => U j ∨ OB R.vR j) X Y F ym S P s m (Ss0 2 sz.toNat) w
  r : RP C.w0.heap.size C M aK U S R w
  t0 : w.cell? ⟨ms, 0, none⟩ = some (.pointer (some ⟨aK, 0, none⟩))
  t1 : w.cell? ⟨ms, 1, none⟩ = some (.int .i64 sz)
  t2 : w.cell? ⟨ms, 2, none⟩ = some (.slice none 0 0)
  t3 : w.cell? ⟨ms, 3, none⟩ = some (.int .i64 0)
  tg : Tag w ms 90
  fz : ∀ o, w.frozen? ⟨ms, o, none⟩ = false
section
variable {B : Nat} {C : Dc} {M : Mc} {Y F ym aK n : Nat} {ab7 V' U U' : Nat → Prop} {X : Nat → Option Obj} {S S' : Ds} {P P' : Ps} {R R' : Rs} {w w' w2 w3 : World} {e : Nat → Addr}
theorem pd_ref (hN : C.w0.heap.size ≤ C.N0) (hD : PD B C ab7 X Y F ym S P w) (K : bD R6 C.N0 w w') (hV : ∀ j, V' j → Tag w' j 34 ∧ (ab7 j ∨ w.heap.size ≤ j)) : PD B C V' X Y F ym S P w' := by
  have DI : ∀ κ : TypeId, some κ ∈ R6 → κ ∈ AK := fun κ hm => by
    simp only [R6, List.mem_cons, Option.some.injEq, List.not_mem_nil, or_false] at hm
    rcases hm with rfl | rfl | rfl | rfl | rfl | rfl | rfl <;> decide
  refine hD.iV (L := fun _ => False) ((bD.kp6 K).mono fun b _ J => ?_) (fun _ _ _ _ _ _ _ _ h => h) (fun _ h => h.elim) hV
  obtain ⟨G, κ, O, h3⟩ := J
  exact Or.inr ⟨Nat.le_trans hN G, Or.inl ⟨κ, O, DI κ h3⟩⟩
theorem JU.fs2 {N sz : Int} {nw : Nat} {w0 : World} (h : JU N 0 sz nw w0 C S) (hA : FA C S) : FS N.toNat C S [] :=
  ⟨h.D, h.oH, ⟨hA.m1, hA.ml⟩, h.hpl, fun t => by rw [h.Gx], by have := h.hfi; rw [h.Zc]; exact this, List.nodup_nil, fun _ h => by cases h⟩
set_option maxRecDepth 100000 in
set_option maxHeartbeats 16000000 in
theorem shelf_ok (N sz : Int) (w : World) (e : Nat → Addr) (he : dM w e) :
    Calls Tryz.prog 34 #[.int .i64 N, .int .i64 sz] w fun ev w' =>
      (¬ ((1 ≤ N ∧ N ≤ 256) ∧ 1 ≤ sz ∧ sz ≤ 64) ∧ ev = .returned (.tuple #[.pointer none, .pointer none, .bool false]) ∧ Below w.heap.size w w') ∨
      (((1 ≤ N ∧ N ≤ 256) ∧ 1 ≤ sz ∧ sz ≤ 64) ∧ ∃ C M S P R l U X Y F ym aK s m ms, ev = .returned (.tuple #[.pointer (some ⟨s, 0, none⟩), .pointer (some ⟨ms, 0, none⟩), .bool true]) ∧ Shf N sz w C M S P R l U X Y F ym aK s m ms w') := by
  have HE := I he
  have UB := I (yL N 0 sz 2 w e he (by omega))
  clear he
  go_enter Tryz.func34, Tryz.ntmps34
  go_wp2_with fail
  refine (Z UB).mono ?_
  rintro ev w1 (⟨hg, rfl, b1⟩ | ⟨hg, C, M, S, rfl, hD, hQ⟩)
  · have HB := I b1
    have HG := I hg
    clear UB b1 hg
    go_wp2
    refine bodyPost_ret (v := .tuple #[.pointer none, .pointer none, .bool false]) (by simp [results, Tryz.results34, go_sem]; try rfl) rfl ?_
    exact Or.inl ⟨fun h => (Z HG) ⟨⟨h.1.1, h.1.2, by omega⟩, h.2, by omega, by omega⟩, rfl, Z HB⟩
  obtain ⟨⟨hg1, hg2, _⟩, hg3, _⟩ := hg
  have hA := DK.fa (Qp hQ)
  have wq := I (hD.fs2 hA)
  have HFA := I hA
  have NT := I (Qp hQ)
  have HAD := I (Yp hQ)
  have Gh := I hD.hN
  have Ld := I hD.hQ
  have Dp := I hD.hw
  have HMN := I hD.Cr
  have HCM := I hD.hm
  have I9 := I hD.D
  have uh := I (show S.ws.length = 2 from hD.dR)
  have Yr := I (show dM C.w0 e from by rw [hD.hw]; exact Z HE)
  have Dg : Hid (∀ x, x < C.k → (C.fr x).length = C.k ∧ ∀ i ∈ C.fr x, i < C.k) := fun x hx => by
    have D := hD.D
    obtain rfl : x = 0 := by omega
    rw [hD.oH, D]
    exact ⟨rfl, fun i hi => by simp at hi; omega⟩
  have HGD : Hid ((1 ≤ N ∧ N ≤ 256) ∧ 1 ≤ sz ∧ sz ≤ 64) := ⟨⟨hg1, hg2⟩, hg3⟩
  have Sp : 0 < N.toNat * C.m := Nat.mul_pos (by omega) hA.m1
  have HPM := I Sp
  clear hD hQ hA UB hg1 hg2 hg3 HE Sp
  have Io := I (NV (ab7 := fun _ => False) (X := fun _ => none) (B := C.w0.heap.size) (Z NT) (Z Gh) (Z Yr) (Nat.le_refl _) (DQ.b0 (Z NT)).size (n := 1) (by omega) 0 (by rw [Z Ld]; omega))
  unfold bc at *
  go_wp2_with fail
  refine (Z Io).mono ?_
  rintro ev w2 (⟨rfl, S', R, vr, hl, hT, hP, hF⟩ | ⟨m, S1, S2, S', R, rfl, hl, hT, hm, _⟩)
  case inr =>
    exfalso
    obtain ⟨_, f1, f2, f3⟩ := (Z wq).tkl (Z HFA) (by rw [Z uh]; omega) hT
    have := Z HPM
    rcases f1.takeA f2 (Or.inl rfl) (by rw [f3, Z uh]; omega) hm with ⟨_, h, _⟩ | ⟨h, _⟩
    · cases h
    · omega
  have Ys := (Z HAD).pf hF (fun _ h => h) (fun j h => (by cases h))
  have mM : C.N0 ≤ w2.heap.size ∧ C.w0.heap.size ≤ w2.heap.size := ⟨DQ.low hP.k, (DQ.b0 hP.k).size⟩
  have Xy := I (u_ (B := C.w0.heap.size) Ys mM (n := 1) (by omega) (Z HFA) (by rw [Z Ld]; omega) (Z Dg) hT hl)
  obtain ⟨_, f1, _, f3⟩ := (Z wq).tkl (Z HFA) (by rw [Z uh]; omega) hT
  have HQQ : Hid (FQ N.toNat C R S' { pG 1 with R := R, vr := vr }) := ⟨f1, fun o ho => by simpa [pG] using ho, by simpa [pG] using f1.V, Z HMN, f3.trans (Z uh), rfl, rfl, Nat.zero_le _, rfl, by show 1 ≤ 16; omega, (yP.ab5 hT).trans (Z Ld)⟩
  have OG := I hP
  have NY := I hl
  clear Io Ys mM hF hP hT f1 f3 hl HAD NT wq HFA HMN Ld uh HPM
  go_wp2_with fail
  refine (Z Xy).mono ?_
  rintro ev w3 ⟨vR, U', rfl, hR, K, hu, hv⟩
  have P3 := pd_ref (V' := fun j => U' j ∨ OB vR j) (Z Gh) (Z OG) K (fun j E => by
    rcases E with E | E
    · exact ⟨hR.k.u j E, Or.inr ((hu j E).elim (fun h => h.elim) id)⟩
    · exact ⟨(ay hR.m.r E).1, Or.inr (hv j E)⟩)
  generalize w1.heap.size + 1 + 1 = Y at *
  generalize w1.heap.size + 1 = ym at *
  generalize w1.heap.size = F at *
  generalize w2.heap.size = aK at *
  obtain ⟨szn, hsz⟩ : ∃ n : Nat, sz = n := ⟨sz.toNat, by have := (Z HGD).2.1; omega⟩
  subst hsz
  have hz : 1 ≤ szn ∧ szn ≤ 64 := by have := (Z HGD).2; omega
  obtain ⟨cp, Zv, _⟩ := (DQ.db P3.k).d1
  have hws2 : S'.ws.length = 2 := (Z HQQ).ws
  rw [hws2] at Zv
  have HSN := I (MV P3.m.c0 Zv hz)
  have hS4 := SP9.start P3 (B := C.w0.heap.size) (DQ.b0 P3.k).size 2 hz
  have b4 := snew_b w3 Y 2 szn
  have KQ := I hS4
  have zx := I (hR.b b4)
  clear Xy hR K hu hv P3 OG Zv hS4 b4
  go_wp2_with fail
  refine (Z HSN).mono ?_
  rintro ev w4 ⟨rfl, rfl⟩
  generalize snewW w3 Y 2 szn = w4 at *
  generalize w3.heap.size + 1 = s at *
  have F5 := χ (Below.refl w4.heap.size w4) (.cells #[.pointer (some ⟨aK, 0, none⟩), .int .i64 szn, .slice none 0 0, .int .i64 0] 90)
  have q' := World.cell?_alloc_new w4 #[.pointer (some ⟨aK, 0, none⟩), .int .i64 szn, .slice none 0 0, .int .i64 0] 90
  have Es : Hid (∃ C M S P R l U X Y F ym rpb' s' m ms, Ending.returned (.tuple #[.pointer (some ⟨s, 0, none⟩), .pointer (some ⟨w4.heap.size, 0, none⟩), .bool true]) = .returned (.tuple #[.pointer (some ⟨s', 0, none⟩), .pointer (some ⟨ms, 0, none⟩), .bool true]) ∧ Shf N szn w C M S P R l U X Y F ym rpb' s' m ms (w4.alloc (.cells #[.pointer (some ⟨aK, 0, none⟩), .int .i64 szn, .slice none 0 0, .int .i64 0] 90))) :=
    ⟨C, M, S', { pG 1 with R := R, vr := vr }, { Bz 1 with R := R, vR := vR }, R, U', _, Y, F, ym, aK, s, _, w4.heap.size, rfl, Z Dp, Z Gh, Z I9, Z HCM, Z Dg, Z HQQ, Z NY, ⟨vr, rfl⟩, ⟨vR, rfl⟩, by rw [Int.toNat_natCast]; exact (Z KQ).b F5, (Z zx).b F5, q' 0, q' 1, q' 2, q' 3, bB _ _ _, fun o => World.frozen?_alloc_at _ _ w4.heap.size o rfl⟩
  clear HSN KQ zx F5 q' HQQ Dp Gh HCM I9 Dg Yr
  go_wp2
  refine bodyPost_ret (v := .tuple #[.pointer (some ⟨s, 0, none⟩), .pointer (some ⟨w4.heap.size, 0, none⟩), .bool true]) (by simp [results, Tryz.results34, go_sem]; try rfl) rfl ?_
  exact Or.inr ⟨Z HGD, Z Es⟩
end
end Pl
end Go.Proofs.YtcbmfakjfoggaaaGreatDoor
namespace Go.Proofs.YtcbmfakjfoggaaaGreatDoor
open Go.RowKit Go.Maps
namespace Pl
open Fr Bd Zn Dz Sb Mg
def One (ab5 : Ds → Ps → Prop) (B : Nat) (C : Dc) (Y F ym s m sz : Nat) (l : List UInt8) (n : Nat) (w : World) : Prop := ∃ Z99 b, SW ab5 B C (fun _ => False) Y F ym s m Z99 w ∧ Z99.f 1 = some b ∧ (Z99.g b).l = l ∧ (Z99.g b).n = n ∧ Z99.n = 1 ∧ Z99.last = 1 ∧ Z99.sz = sz ∧ Z99.q ≤ 10
def Two (ab5 : Ds → Ps → Prop) (B : Nat) (C : Dc) (Y F ym s m sz : Nat) (l : List UInt8) (n : Nat) (l2 : List UInt8) (w : World) : Prop := ∃ Z99 b b2, SW ab5 B C (fun _ => False) Y F ym s m Z99 w ∧ Z99.f 1 = some b ∧ Z99.f 2 = some b2 ∧ b2 ≠ b ∧ (Z99.g b).l = l ∧ (Z99.g b).n = n ∧ (Z99.g b2).l = l2 ∧ (Z99.g b2).n = 1 ∧ Z99.n = 2 ∧ Z99.sz = sz
section
variable {ab5 : Ds → Ps → Prop} {Q' : Bl → Ds → Ps → Prop} {B : Nat} {C : Dc} {Y F ym m s sz n : Nat} {l l2 : List UInt8} {w w' : World} {e : Nat → Addr}
theorem wf1 : (Lit.int .i64 (1 : Int)).wf = true := by decide
theorem wf2 : (Lit.int .i64 (2 : Int)).wf = true := by decide
theorem One.b (h : One ab5 B C Y F ym s m sz l n w) (J : Below w.heap.size w w') : One ab5 B C Y F ym s m sz l n w' := by
  obtain ⟨Z99, b, G, O⟩ := h
  exact ⟨Z99, b, G.b J, O⟩
theorem One.low (h : One ab5 B C Y F ym s m sz l n w) : Below C.w0.heap.size C.w0 w := by
  obtain ⟨Z99, b, G, O⟩ := h
  exact G.low
theorem One.len (h : One ab5 B C Y F ym s m sz l n w) : l.length = sz ∧ 1 ≤ sz ∧ sz ≤ 64 := by
  obtain ⟨Z99, b, G, O, rfl, rfl, _, _, rfl, _⟩ := h
  exact ⟨(G.k.k 1 b O).2.2.2.2.2.1, G.k.sz1.1, G.k.sz1.2⟩
theorem Two.b (h : Two ab5 B C Y F ym s m sz l n l2 w) (J : Below w.heap.size w w') : Two ab5 B C Y F ym s m sz l n l2 w' := by
  obtain ⟨Z99, b, b2, G, O⟩ := h
  exact ⟨Z99, b, b2, G.b J, O⟩
theorem Two.low (h : Two ab5 B C Y F ym s m sz l n l2 w) : Below C.w0.heap.size C.w0 w := by
  obtain ⟨Z99, b, b2, G, O⟩ := h
  exact G.low
theorem Two.len (h : Two ab5 B C Y F ym s m sz l n l2 w) : 1 ≤ sz ∧ sz ≤ 64 := by
  obtain ⟨Z99, b, b2, G, O, _, _, _, _, _, _, _, rfl⟩ := h
  exact ⟨G.k.sz1.1, G.k.sz1.2⟩
theorem one_take (h : SW ab5 B C (fun _ => False) Y F ym s m (Ss0 2 sz) w) (he : dM C.w0 e) (Hh : 11 < C.w0.heap.size) (HT : Gives ab5 Q' B C Y F ym 0 0) :
    Calls Tryz.prog 35 #[.pointer (some ⟨s, 0, none⟩), .int .i64 0, .int .i64 0] w fun ev w' => ev = .returned (.tuple #[.int .i64 1, .nilIface]) ∧ ∃ o, One (Q' o) B C Y F ym s m sz (List.replicate sz 0) 1 w' := by
  refine (take_sw h he Hh (by show 0 < 1000000; omega) (by show 0 < 1000000; omega) HT).mono ?_
  rintro ev w' ⟨rfl, o, b, q', G⟩
  exact ⟨rfl, o, _, b, G, (show upI (Ss0 2 sz).f (1 : Int) (some b) 1 = some b from upI_at _ _ _), by simp only [upG_at, Ss0], by simp only [upG_at], rfl, rfl, rfl, by show 0 + 1 ≤ 10; omega⟩
theorem one_write (h : One ab5 B C Y F ym s m sz l 1 w) {a : Nat} (x : ByteArray) (hle : a + x.size ≤ sz) : Calls Tryz.prog 36 #[.pointer (some ⟨s, 0, none⟩), .int .i64 1, .int .i64 a, .string x] w fun ev w' => ev = .returned .nilIface ∧ One ab5 B C Y F ym s m sz (spl l a x.data.toList) 1 w' := by
  obtain ⟨Z99, b, G, O, rfl, h4, h5, h6, rfl, h8⟩ := h
  refine (write_sw G wf1 O h4 x hle).mono ?_
  rintro ev w' ⟨rfl, h9⟩
  exact ⟨rfl, _, b, h9, O, by simp only [upG_at], by simp only [upG_at]; exact h4, h5, h6, rfl, h8⟩
theorem one_hold (h : One ab5 B C Y F ym s m sz l n w) (hn : n < 16) : Calls Tryz.prog 37 #[.pointer (some ⟨s, 0, none⟩), .int .i64 1] w fun ev w' => ev = .returned .nilIface ∧ One ab5 B C Y F ym s m sz l (n + 1) w' := by
  obtain ⟨Z99, b, G, O, rfl, rfl, h5, h6, rfl, h8⟩ := h
  refine (hold_sw G wf1 O hn).mono ?_
  rintro ev w' ⟨rfl, h9⟩
  exact ⟨rfl, _, b, h9, O, by simp only [upG_at], by simp only [upG_at], h5, h6, rfl, h8⟩
theorem one_read (h : One ab5 B C Y F ym s m sz l n w) {k : Nat} (D : k ≤ sz) : Calls Tryz.prog 38 #[.pointer (some ⟨s, 0, none⟩), .int .i64 1, .int .i64 0, .int .i64 k] w fun ev w' => ev = .returned (.tuple #[.string ⟨(l.take k).toArray⟩, .nilIface]) ∧ w' = w := by
  obtain ⟨Z99, b, G, O, rfl, rfl, h5, h6, rfl, h8⟩ := h
  have := read_ok G.k wf1 O (a := 0) (n := k) (by omega)
  simpa using this
theorem one_held (h : One ab5 B C Y F ym s m sz l n w) (he : dM C.w0 e) (hn : 1 < n) (x : ByteArray) (hx : x.size ≤ sz) : Calls Tryz.prog 36 #[.pointer (some ⟨s, 0, none⟩), .int .i64 1, .int .i64 0, .string x] w fun ev w' => ev = .returned (bc (e 5)) ∧ w' = w := by
  obtain ⟨Z99, b, G, O, rfl, rfl, h5, h6, rfl, h8⟩ := h
  have := write_held G.k (he.below G.low) wf1 O hn (a := 0) x (by omega)
  simpa using this
theorem one_own (h : One ab5 B C Y F ym s m sz l 1 w) (x y : Int) : Calls Tryz.prog 39 #[.pointer (some ⟨s, 0, none⟩), .int .i64 x, .int .i64 y, .int .i64 1] w fun ev w' => ev = .returned (.tuple #[.int .i64 1, .nilIface]) ∧ w' = w := by
  obtain ⟨Z99, b, G, O, rfl, h4, h5, h6, rfl, h8⟩ := h
  exact own_one G.k wf1 O h4 x y
theorem one_count (h : One ab5 B C Y F ym s m sz l n w) : Calls Tryz.prog 40 #[.pointer (some ⟨s, 0, none⟩)] w fun ev w' => ev = .returned (.int .i64 1) ∧ w' = w := by
  obtain ⟨Z99, b, G, O, rfl, rfl, h5, h6, rfl, h8⟩ := h
  have := scount_ok G.k
  rw [h5] at this
  exact this
theorem one_more (h : One ab5 B C Y F ym s m sz l n w) (he : dM C.w0 e) (Hh : 11 < C.w0.heap.size) (hn : 1 < n) (HT : Gives ab5 Q' B C Y F ym 1 0) :
    Calls Tryz.prog 39 #[.pointer (some ⟨s, 0, none⟩), .int .i64 1, .int .i64 0, .int .i64 1] w fun ev w' => ev = .returned (.tuple #[.int .i64 2, .nilIface]) ∧ ∃ o, Two (Q' o) B C Y F ym s m sz l (n - 1) l w' := by
  obtain ⟨Z99, b, G, O, rfl, rfl, h5, h6, rfl, h8⟩ := h
  refine (own_sw G he Hh (by omega) (by omega) HT wf1 O hn).mono ?_
  rintro ev w' ⟨rfl, o, b', q', J, h9⟩
  rw [h6] at h9 ⊢
  refine ⟨by simp, o, _, b, b', h9, ?_, ?_, J, ?_, ?_, ?_, ?_, by simp only [h5], rfl⟩
  · simp only
    rw [upI_ne (by decide)]
    exact O
  · simp only
    exact upI_at _ _ _
  · simp only [upG_at]
  · simp only [upG_at]
  · simp only [upG_ne J, upG_at]
  · simp only [upG_ne J, upG_at]
theorem two_read1 (h : Two ab5 B C Y F ym s m sz l n l2 w) {k : Nat} (D : k ≤ sz) : Calls Tryz.prog 38 #[.pointer (some ⟨s, 0, none⟩), .int .i64 1, .int .i64 0, .int .i64 k] w fun ev w' => ev = .returned (.tuple #[.string ⟨(l.take k).toArray⟩, .nilIface]) ∧ w' = w := by
  obtain ⟨Z99, b, b2, G, O, h3, h4, rfl, rfl, rfl, h5, h6, rfl⟩ := h
  have := read_ok G.k wf1 O (a := 0) (n := k) (by omega)
  simpa using this
theorem two_read2 (h : Two ab5 B C Y F ym s m sz l n l2 w) {k : Nat} (D : k ≤ sz) : Calls Tryz.prog 38 #[.pointer (some ⟨s, 0, none⟩), .int .i64 2, .int .i64 0, .int .i64 k] w fun ev w' => ev = .returned (.tuple #[.string ⟨(l2.take k).toArray⟩, .nilIface]) ∧ w' = w := by
  obtain ⟨Z99, b, b2, G, O, h3, h4, rfl, rfl, rfl, h5, h6, rfl⟩ := h
  have := read_ok G.k wf2 h3 (a := 0) (n := k) (by omega)
  simpa using this
theorem two_write2 (h : Two ab5 B C Y F ym s m sz l n l2 w) (x : ByteArray) (hx : x.size ≤ sz) : Calls Tryz.prog 36 #[.pointer (some ⟨s, 0, none⟩), .int .i64 2, .int .i64 0, .string x] w fun ev w' => ev = .returned .nilIface ∧ ∃ l3, Two ab5 B C Y F ym s m sz l n l3 w' := by
  obtain ⟨Z99, b, b2, G, O, h3, h4, rfl, rfl, rfl, h5, h6, rfl⟩ := h
  have := write_sw G wf2 h3 h5 (a := 0) x (by omega)
  rw [show ((0 : Nat) : Int) = 0 from rfl] at this
  refine this.mono ?_
  rintro ev w' ⟨rfl, h9⟩
  exact ⟨rfl, _, _, b, b2, h9, O, h3, h4, by simp only [upG_ne h4.symm], by simp only [upG_ne h4.symm], rfl, by simp only [upG_at]; exact h5, h6, rfl⟩
theorem two_holders (h : Two ab5 B C Y F ym s m sz l n l2 w) : Calls Tryz.prog 41 #[.pointer (some ⟨s, 0, none⟩), .int .i64 1] w fun ev w' => ev = .returned (.tuple #[.int .i64 n, .nilIface]) ∧ Below w.heap.size w w' := by
  obtain ⟨Z99, b, b2, G, O, h3, h4, rfl, rfl, rfl, h5, h6, rfl⟩ := h
  exact holders_some G.k wf1 O
theorem two_count (h : Two ab5 B C Y F ym s m sz l n l2 w) : Calls Tryz.prog 40 #[.pointer (some ⟨s, 0, none⟩)] w fun ev w' => ev = .returned (.int .i64 2) ∧ w' = w := by
  obtain ⟨Z99, b, b2, G, O, h3, h4, rfl, rfl, rfl, h5, h6, rfl⟩ := h
  have := scount_ok G.k
  rw [h6] at this
  exact this
end
end Pl
end Go.Proofs.YtcbmfakjfoggaaaGreatDoor
namespace Go.Proofs.YtcbmfakjfoggaaaGreatDoor
open Go.RowKit Go.Maps
namespace Pl
open Fr Bd Zn Dz Sb Mg Rd
section
variable {B : Nat} {C : Dc} {M : Mc} {Y F ym aK s m ms pg : Nat} {U : Nat → Prop} {X : Nat → Option Obj} {S : Ds} {P : Ps} {R : Rs} {l : List Bl} {w w0 : World} {e : Nat → Addr} {x N sz : Int}
theorem gives_q (hlt : l.length < pg * C.m) (hN : C.w0.heap.size ≤ C.N0) (he : dM C.w0 e) (Hh : 11 < B) (hx : 0 ≤ x ∧ x < 2) (hl : l.length < 1000000) : Gives (FQ pg C l) (fun o => FQ pg C (l ++ [o])) B C Y F ym x 0 := fun _ _ _ _ _ hD hF => take_q hD hF hlt hN he Hh hx hl
theorem Shf.sw9 (h : Shf N sz w0 C M S P R l U X Y F ym aK s m ms w) : SW (FQ N.toNat C l) C.w0.heap.size C (fun _ => False) Y F ym s m (Ss0 2 sz.toNat) w := ⟨X, S, P, h.p.less (fun _ h => h.elim), h.q⟩
set_option maxRecDepth 100000 in
set_option maxHeartbeats 16000000 in
theorem shelved_ok (w : World) (e : Nat → Addr) (he : dM w e) (hw : 11 < w.heap.size) : Calls Tryz.prog 33 #[] w fun ev w' => ev = .returned (.bool true) ∧ Below w.heap.size w w' := by
  have Ry := I (shelf_ok 1 16 w e he)
  have HE := I he
  clear he
  go_enter Tryz.func33, Tryz.ntmps33
  go_wp2_with fail
  refine (Z Ry).mono ?_
  rintro ev w1 (⟨h, _⟩ | ⟨_, C, M, S, P, R, l, U, X, Y, F, ym, aK, s, m, ms, rfl, hS⟩)
  · omega
  have hw0 := hS.hw
  have hE := Z HE
  rw [← hw0] at hE hw
  have hm : C.m = 4 := by have := hS.hm; omega
  have KG := hS.l1
  have hTK := one_take hS.sw9 hE hw (gives_q (x := 0) (by rw [KG, hm]; decide) hS.hN hE hw (by omega) (by rw [KG]; omega))
  have gL := I hTK
  have Wb := I hw0
  clear Ry hS hE hm KG hTK HE
  go_wp2_with fail
  refine (Z gL).mono ?_
  rintro ev w2 ⟨rfl, o, O⟩
  have hWR := one_write O (a := 1) ⟨#[97, 98]⟩ (by decide)
  rw [show ((1 : Nat) : Int) = 1 from rfl] at hWR
  have HWR := I hWR
  clear gL O hWR
  go_wp2_with fail
  refine (Z HWR).mono ?_
  rintro ev w3 ⟨rfl, h3⟩
  have hRD := one_read h3 (k := 4) (by decide)
  rw [show ((4 : Nat) : Int) = 4 from rfl, show (List.take 4 (spl (List.replicate (Int.toNat 16) 0) 1 (ByteArray.mk #[97, 98]).data.toList)).toArray = #[0, 97, 98, 0] from by decide] at hRD
  have Kz := I hRD
  have jN := h3.low
  rw [Z Wb] at jN
  have oz := I jN
  clear HWR h3 hRD jN
  go_wp2_with fail
  refine (Z Kz).mono ?_
  rintro ev w4 ⟨rfl, rfl⟩
  clear Kz
  go_wp2
  go_ret
  exact ⟨rfl, Z oz⟩
end
end Pl
end Go.Proofs.YtcbmfakjfoggaaaGreatDoor
