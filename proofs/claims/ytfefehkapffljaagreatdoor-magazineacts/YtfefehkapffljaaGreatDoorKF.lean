/- K3 · K4 · K13 · K12. -/
import Derived.Test.YtfefehkapffljaaGreatDoorKA
import Derived.Test.YtfefehkapffljaaGreatDoorGD
import Derived.Shelf.Spec.TrailingZeros
import Derived.Test.YtfefehkapffljaaGreatDoorGB
import Derived.Test.YtfefehkapffljaaGreatDoorKC
import Derived.BigRegion
import Derived.Deep.RegionHeld3
namespace Go.Proofs.YtfefehkapffljaaGreatDoor
open Go.RowKit
namespace Sb
open Fr Bd
theorem shr_bit (x : Nat) (i : Nat) (hx : x < 18446744073709551616) : (bits .and .u64 ((x : Int) / 2 ^ i) 1 == 1) = x.testBit i := by
 have e : (x : Int) / 2 ^ i = ((x / 2 ^ i : Nat) : Int) := by push_cast; rfl
 have hl : x / 2 ^ i < 18446744073709551616 := Nat.lt_of_le_of_lt (Nat.div_le_self _ _) hx
 rw [e, show (1 : Int) = ((1 : Nat) : Int) from rfl, bits_and_u64_nat _ _ hl (by omega), nat_mask1, bit_div]
 cases x.testBit i <;> simp
set_option maxHeartbeats 2000000 in
theorem shas_ok (b i x : Nat) (w : World) (h3 : w.cell? ⟨b, 3, none⟩ = some (.int .u64 x)) (hi : i < 64) (hx : x < 18446744073709551616) :
   Calls Tryz.prog 51 #[ptr b, .int .i64 i] w fun ev w' => ev = .returned (.bool (x.testBit i)) ∧ w' = w := by
 have hb := shr_bit x i hx
 unfold ptr
 go_enter Tryz.func51, Tryz.ntmps51
 go_wp2
 go_ret
 exact ⟨rfl, rfl⟩
set_option maxHeartbeats 2000000 in
theorem room_ok (c : Nat) (sz : Int) (w : World) (h1 : w.cell? ⟨c, 1, none⟩ = some (.int .i64 sz)) (h : 1 ≤ sz) (h64 : sz ≤ 64) :
   Calls Tryz.prog 114 #[ptr c] w fun ev w' => ev = .returned (.int .i64 (64 / sz)) ∧ w' = w := by
 unfold ptr
 go_enter Tryz.func114, Tryz.ntmps114
 go_wp2
 go_ret
 exact ⟨rfl, rfl⟩
end Sb
end Go.Proofs.YtfefehkapffljaaGreatDoor
namespace Go.Proofs.YtfefehkapffljaaGreatDoor
open Go.RowKit
namespace Sb
theorem wrap_add64 (a b : Nat) (h : a + b < 18446744073709551616) : IntKind.u64.wrap ((a : Int) + (b : Int)) = ((a + b : Nat) : Int) := by
 rw [IntKind.wrap_u64]; omega
theorem and_nat (a b : Nat) (ha : a < 18446744073709551616) (hb : b < 18446744073709551616) : bits .and .u64 (a : Int) (b : Int) = ((a &&& b : Nat) : Int) := bits_and_u64_nat a b ha hb
theorem and_i64 (a : Nat) (ha : a < 9223372036854775808) : bits .and .i64 (a : Int) 127 = ((a % 128 : Nat) : Int) := by
 have h1 : (BitVec.ofInt 64 (a : Int)).toNat = a := by
   rw [BitVec.ofInt_natCast, BitVec.toNat_ofNat]; exact Nat.mod_eq_of_lt (by omega)
 have h2 : (BitVec.ofInt 64 (127 : Int)).toNat = 127 := by decide
 show IntKind.i64.wrap ((BitVec.ofInt 64 (a : Int) &&& BitVec.ofInt 64 (127 : Int)).toNat : Int) = _
 rw [BitVec.toNat_and, h1, h2, show (127 : Nat) = 2 ^ 7 - 1 from rfl, Nat.and_two_pow_sub_one_eq_mod, IntKind.wrap_i64]
 omega
set_option maxHeartbeats 4000000 in
theorem ones_ok (x : Nat) (w : World) (hx : x < 18446744073709551616) :
   Calls Tryz.prog 119 #[.int .u64 x] w fun ev w' => ev = .returned (.int .i64 (pop x 64)) ∧ w' = w := by
 have hm5 : mk 4 5 16 = 6148914691236517205 := by decide +kernel
 have hm3 : mk 4 3 16 = 3689348814741910323 := by decide +kernel
 have hmf : mk 8 15 8 = 1085102592571150095 := by decide +kernel
 obtain ⟨a1, ha1⟩ : ∃ a : Nat, a = x / 2 &&& 6148914691236517205 := ⟨_, rfl⟩
 obtain ⟨b1, hb1⟩ : ∃ a : Nat, a = x &&& 6148914691236517205 := ⟨_, rfl⟩
 obtain ⟨y1, hy1⟩ : ∃ a : Nat, a = a1 + b1 := ⟨_, rfl⟩
 obtain ⟨a2, ha2⟩ : ∃ a : Nat, a = y1 / 4 &&& 3689348814741910323 := ⟨_, rfl⟩
 obtain ⟨b2, hb2⟩ : ∃ a : Nat, a = y1 &&& 3689348814741910323 := ⟨_, rfl⟩
 obtain ⟨y2, hy2⟩ : ∃ a : Nat, a = a2 + b2 := ⟨_, rfl⟩
 obtain ⟨s2, hs2⟩ : ∃ a : Nat, a = y2 / 16 + y2 := ⟨_, rfl⟩
 obtain ⟨y3, hy3⟩ : ∃ a : Nat, a = s2 &&& 1085102592571150095 := ⟨_, rfl⟩
 obtain ⟨y4, hy4⟩ : ∃ a : Nat, a = y3 + y3 / 256 := ⟨_, rfl⟩
 obtain ⟨y5, hy5⟩ : ∃ a : Nat, a = y4 + y4 / 65536 := ⟨_, rfl⟩
 obtain ⟨y6, hy6⟩ : ∃ a : Nat, a = y5 + y5 / 4294967296 := ⟨_, rfl⟩
 have e1 : y1 = f1 16 x := by rw [hy1, ha1, hb1]; simp only [f1, hm5]
 have e2 : y2 = f2 16 x := by rw [hy2, ha2, hb2, e1]; simp only [f2, hm3]
 have e3 : y3 = f3 8 (f2 16 x) := by rw [hy3, hs2, e2]; simp only [f3, hmf]
 obtain ⟨hend, hl6⟩ := swar_end x y3 e3 y4 y5 y6 hy4 hy5 hy6
 have la1 : a1 ≤ 6148914691236517205 := by rw [ha1]; exact Nat.and_le_right
 have lb1 : b1 ≤ 6148914691236517205 := by rw [hb1]; exact Nat.and_le_right
 have la2 : a2 ≤ 3689348814741910323 := by rw [ha2]; exact Nat.and_le_right
 have lb2 : b2 ≤ 3689348814741910323 := by rw [hb2]; exact Nat.and_le_right
 have q1 : bits .and .u64 ((x : Int) / 2) 6148914691236517205 = (a1 : Int) := by
   rw [ha1, show ((x : Int) / 2) = ((x / 2 : Nat) : Int) by omega]; exact and_nat (x / 2) 6148914691236517205 (by omega) (by decide)
 have q2 : bits .and .u64 (x : Int) 6148914691236517205 = (b1 : Int) := by rw [hb1]; exact and_nat x 6148914691236517205 hx (by decide)
 have q3 : IntKind.u64.wrap ((a1 : Int) + (b1 : Int)) = (y1 : Int) := by rw [hy1]; exact wrap_add64 _ _ (by omega)
 have q4 : bits .and .u64 ((y1 : Int) / 4) 3689348814741910323 = (a2 : Int) := by
   rw [ha2, show ((y1 : Int) / 4) = ((y1 / 4 : Nat) : Int) by omega]; exact and_nat (y1 / 4) 3689348814741910323 (by omega) (by decide)
 have q5 : bits .and .u64 (y1 : Int) 3689348814741910323 = (b2 : Int) := by rw [hb2]; exact and_nat y1 3689348814741910323 (by omega) (by decide)
 have q6 : IntKind.u64.wrap ((a2 : Int) + (b2 : Int)) = (y2 : Int) := by rw [hy2]; exact wrap_add64 _ _ (by omega)
 have q7 : IntKind.u64.wrap ((y2 : Int) / 16 + (y2 : Int)) = (s2 : Int) := by
   rw [hs2, show ((y2 : Int) / 16) = ((y2 / 16 : Nat) : Int) by omega]; exact wrap_add64 _ _ (by omega)
 have q8 : bits .and .u64 (s2 : Int) 1085102592571150095 = (y3 : Int) := by rw [hy3]; exact and_nat s2 1085102592571150095 (by omega) (by decide)
 have q9 : IntKind.u64.wrap ((y3 : Int) + (y3 : Int) / 256) = (y4 : Int) := by
   rw [hy4, show ((y3 : Int) / 256) = ((y3 / 256 : Nat) : Int) by omega]; exact wrap_add64 _ _ (by omega)
 have q10 : IntKind.u64.wrap ((y4 : Int) + (y4 : Int) / 65536) = (y5 : Int) := by
   rw [hy5, show ((y4 : Int) / 65536) = ((y4 / 65536 : Nat) : Int) by omega]; exact wrap_add64 _ _ (by omega)
 have q11 : IntKind.u64.wrap ((y5 : Int) + (y5 : Int) / 4294967296) = (y6 : Int) := by
   rw [hy6, show ((y5 : Int) / 4294967296) = ((y5 / 4294967296 : Nat) : Int) by omega]; exact wrap_add64 _ _ (by omega)
 have ly3 : y3 ≤ 1085102592571150095 := by rw [hy3]; exact Nat.and_le_right
 have ly6 : y6 < 9223372036854775808 := by omega
 have q12 : wrap64 (y6 : Int) = (y6 : Int) := IntWalk.wrap64_in _ (by omega)
 have q13 : bits .and .i64 (y6 : Int) 127 = ((pop x 64 : Nat) : Int) := by
   rw [and_i64 y6 ly6, hend]
 generalize pop x 64 = r at *
 clear ly3 ly6 hm5 hm3 hmf e1 e2 e3 hend la1 lb1 la2 lb2 ha1 hb1 hy1 ha2 hb2 hy2 hs2 hy3 hy4 hy5 hy6
 go_enter Tryz.func119, Tryz.ntmps119
 go_wp2
 go_ret
 exact ⟨rfl, rfl⟩
theorem ctz_core (x k idx : Nat) (w : World) (hx0 : ((x : Int) == 0) = false)
   (key : IntKind.u64.wrap (bits BinOp.and IntKind.u64 (x : Int) (IntKind.u64.wrap (-(x : Int))) * 285870213051353865) / 288230376151711744 = (idx : Int))
   (hi : idx < 64) (hk : k < 64) (hcell : w.cell? ⟨5, idx, none⟩ = some (.int .u8 k)) :
   Calls Tryz.prog 58 #[.int .u64 x] w fun e w' => e = .returned (.int .i64 k) ∧ w' = w := by
 go_enter Tryz.func58, Tryz.ntmps58
 go_wp2_with (simp only [key])
 go_ret
 exact ⟨rfl, rfl⟩
theorem ctz_zero (w : World) : Calls Tryz.prog 58 #[.int .u64 0] w fun e w' => e = .returned (.int .i64 64) ∧ w' = w := by
 go_enter Tryz.func58, Tryz.ntmps58
 go_wp2
 go_ret
 exact ⟨rfl, rfl⟩
end Sb
end Go.Proofs.YtfefehkapffljaaGreatDoor
namespace Go.Proofs.YtfefehkapffljaaGreatDoor
open Go.RowKit
namespace Sb
open Fr Bd Zn Dz
theorem chas_ok (c z : Nat) (mn lw hi : Int) (k : Nat) (nb fm tm : Nat → Nat) (nd : Nat → Nd) (fr : Nat → List Nat) (x : Int) (w : World) (e : Nat → Addr) (he : Errs3 w e) (h : DZ w z mn lw hi k nb fm tm nd fr) (hc : w.cell? ⟨c, 0, none⟩ = some (ptr z)) :
   Calls Tryz.prog 55 #[ptr c, .int .i64 x] w fun ev w' => ev = .returned (.bool (decide (0 ≤ x ∧ x < k))) ∧ Below w.heap.size w w' := by
 by_cases hx : 0 ≤ x ∧ x < k
 · obtain ⟨x', rfl⟩ := Int.eq_ofNat_of_zero_le hx.1
   have H := hide (zfree_ok z mn lw hi k nb fm tm nd fr x' w h (by omega))
   rw [show decide (0 ≤ (x' : Int) ∧ (x' : Int) < k) = true by simp; omega]
   generalize pgs (nd x').F = v at *
   clear h he hx
   unfold ptr at *
   go_enter Tryz.func55, Tryz.ntmps55
   go_wp2_with fail
   refine (unhide H).mono ?_
   rintro ev w' ⟨rfl, hb⟩
   go_wp2_with fail
   go_ret
   exact ⟨rfl, hb⟩
 · have H := hide (zfree_bad z mn lw hi k nb fm tm nd fr x w e he h hx)
   rw [show decide (0 ≤ x ∧ x < k) = false by simpa using hx]
   clear h he hx
   unfold ptr errV at *
   go_enter Tryz.func55, Tryz.ntmps55
   go_wp2_with fail
   refine (unhide H).mono ?_
   rintro ev w' ⟨rfl, hb⟩
   go_wp2_with fail
   go_ret
   exact ⟨rfl, hb⟩
def bestV (bs : List Nat) : Option Nat → Value
 | none => .pointer none
 | some j => ptr (bs.getD j 0)
theorem DC.mle {N0 : Nat} {w : World} {c z : Nat} {ly : Ly} {sz : Int} {m : Nat} {bs : List Nat} {ss : List Sl} (h : DC N0 w c z ly sz m bs ss) : 1 ≤ m ∧ m ≤ 64 := by
 obtain ⟨h1, h2, h3⟩ := h.mm
 have h4 : (64 : Int) / sz ≤ 64 := Int.ediv_le_self _ (by omega)
 have h5 : (1 : Int) ≤ 64 / sz := Int.le_ediv_of_mul_le (by omega) (by omega)
 omega
theorem pow_le64 {x m : Nat} (h : x < 2 ^ m) (hm : m ≤ 64) : x < 18446744073709551616 := Nat.lt_of_lt_of_le h (Nat.le_trans (Nat.pow_le_pow_right (by omega) hm) (by decide))
set_option maxRecDepth 100000 in
set_option maxHeartbeats 8000000 in
theorem full_ok (N0 : Nat) (c z : Nat) (ly : Ly) (sz : Int) (m : Nat) (bs : List Nat) (ss : List Sl) (x : Nat) (w : World) (h : DC N0 w c z ly sz m bs ss) (hn : ss.length ≤ 10000) :
   Calls Tryz.prog 56 #[ptr c, .int .i64 x] w fun ev w' => ev = .returned (bestV bs (bst m x ss ss.length).1) ∧ w' = w := by
 obtain ⟨p, d, e2, o2⟩ := h.c2
 have hml := h.mle
 have hmm := h.mm.2.2
 have HRM := hide (room_ok c sz w h.c1 h.mm.1 h.mm.2.1)
 rw [← hmm] at HRM
 have HR := hide (fun i (hi : i < ss.length) => h.slab hi)
 have HW := hide (fun (hi : 0 < ss.length) => h.row hi)
 rw [h.len] at e2
 clear h o2 hmm
 unfold ptr at *
 go_enter Tryz.func56, Tryz.ntmps56
 go_wp2_with fail
 go_loopw [15, 5, 6] (fun s s5 s6 wr => ∃ i : Nat, s = .int .i64 i ∧ i ≤ ss.length ∧ wr = w ∧ s5 = bestV bs (bst m x ss i).1 ∧ s6 = .int .i64 (bst m x ss i).2) (fun s _ _ _ => ss.length - (RowKit.intOf s).toNat)
 case atStart => exact ⟨0, rfl, Nat.zero_le _, rfl, rfl, rfl⟩
 case round =>
   obtain ⟨i, rfl, hi, rfl, rfl, rfl⟩ := hrel
   by_cases hil : i < ss.length
   · obtain ⟨b, s, eb, es, hS, hok⟩ := (unhide HR) i hil
     obtain ⟨g, d', eg, _, hg, _, hrow⟩ := (unhide HW) (by omega)
     rw [e2] at eg
     simp only [Option.some.injEq, Value.slice.injEq, true_and] at eg
     obtain ⟨rfl, rfl⟩ := eg
     have rb := hrow i b eb
     have c0 := hS.c0
     have c3 := hS.c3
     have HON := ones_ok s.bm wr (pow_le64 hok.2.2.1 hml.2)
     rw [pop_lt_pow hok.2.2.1 64 hml.2] at HON
     have hnx : bst m x ss (i + 1) = if s.nd = x ∧ pop s.bm m < m ∧ (bst m x ss i).2 < (pop s.bm m : Int) then (some i, (pop s.bm m : Int)) else bst m x ss i := by
       rw [bst, getD_at es]
     have hbv := bst_hi m x ss i
     have hbi : bestV bs (some i) = .pointer (some ⟨b, 0, none⟩) := by simp only [bestV, getD_at eb]; rfl
     have hpl := pop_le s.bm m
     have HX := hide hnx
     have HON := hide HON
     clear hnx hrow hS hok eb es
     generalize s.bm = bm at *
     generalize pop bm m = n1 at *
     generalize hB : bst m x ss i = B1 at *
     obtain ⟨o1, v1⟩ := B1
     simp only at hbv
     generalize hbo : bestV bs o1 = V1 at *
     have hi0 : (0 : Int) ≤ i := by omega
     have hi1 : (i : Int) < ss.length := by omega
     unfold ptr at *
     have HBI := hide hbi
     have HBO := hide hbo
     have HB := hide hB
     clear hB hbo hbi
     by_cases a1 : s.nd = x
     · have d1 : ((s.nd : Int) == (x : Int)) = true := by simp; omega
       by_cases a2 : n1 < m
       · have d2 : decide ((n1 : Int) < (m : Int)) = true := by simp; omega
         by_cases a3 : v1 < (n1 : Int)
         · have d3 : decide ((n1 : Int) > v1) = true := by simp; omega
           have HE : Hid (bst m x ss (i + 1) = (some i, (n1 : Int))) := by rw [unhide HX, if_pos ⟨a1, a2, a3⟩]; exact rfl
           clear a1
           go_wp2_with (first | (go_at_call 119; refine (unhide HON).mono ?_; rintro ev w3 ⟨rfl, rfl⟩) | (go_at_call 114; refine (unhide HRM).mono ?_; rintro ev w3 ⟨rfl, rfl⟩))
           go_roundw
           case rel => exact ⟨i + 1, by go_num, by omega, by first | trivial | rfl, by rw [unhide HE]; exact (unhide HBI).symm, by rw [unhide HE]⟩
           case measure => simp [RowKit.intOf]; omega
         · have d3 : decide ((n1 : Int) > v1) = false := by simp; omega
           have HE : Hid (bst m x ss (i + 1) = (o1, v1)) := by rw [unhide HX, if_neg (fun h => a3 h.2.2)]; exact rfl
           clear a1
           go_wp2_with (first | (go_at_call 119; refine (unhide HON).mono ?_; rintro ev w3 ⟨rfl, rfl⟩) | (go_at_call 114; refine (unhide HRM).mono ?_; rintro ev w3 ⟨rfl, rfl⟩))
           go_roundw
           case rel => exact ⟨i + 1, by go_num, by omega, by first | trivial | rfl, by rw [unhide HE]; exact (unhide HBO).symm, by rw [unhide HE]⟩
           case measure => simp [RowKit.intOf]; omega
       · have d2 : decide ((n1 : Int) < (m : Int)) = false := by simp; omega
         have HE : Hid (bst m x ss (i + 1) = (o1, v1)) := by rw [unhide HX, if_neg (fun h => a2 h.2.1)]; exact rfl
         clear a1
         go_wp2_with (first | (go_at_call 119; refine (unhide HON).mono ?_; rintro ev w3 ⟨rfl, rfl⟩) | (go_at_call 114; refine (unhide HRM).mono ?_; rintro ev w3 ⟨rfl, rfl⟩))
         go_roundw
         case rel => exact ⟨i + 1, by go_num, by omega, by first | trivial | rfl, by rw [unhide HE]; exact (unhide HBO).symm, by rw [unhide HE]⟩
         case measure => simp [RowKit.intOf]; omega
     · have d1 : ((s.nd : Int) == (x : Int)) = false := by simp; omega
       have HE : Hid (bst m x ss (i + 1) = (o1, v1)) := by rw [unhide HX, if_neg (fun h => a1 h.1)]; exact rfl
       clear a1
       go_wp2_with (first | (go_at_call 119; refine (unhide HON).mono ?_; rintro ev w3 ⟨rfl, rfl⟩) | (go_at_call 114; refine (unhide HRM).mono ?_; rintro ev w3 ⟨rfl, rfl⟩))
       go_roundw
       case rel => exact ⟨i + 1, by go_num, by omega, by first | trivial | rfl, by rw [unhide HE]; exact (unhide HBO).symm, by rw [unhide HE]⟩
       case measure => simp [RowKit.intOf]; omega
   · obtain rfl : i = ss.length := by omega
     go_wp2
     go_ret
     exact ⟨rfl, rfl⟩
end Sb
end Go.Proofs.YtfefehkapffljaaGreatDoor
namespace Go.Proofs.YtfefehkapffljaaGreatDoor
open Go.RowKit
namespace Sb
open Fr Bd Zn Dz
def objV (x a : Int) : Value := .agg #[.int .i64 x, .int .i64 a]
set_option maxRecDepth 100000 in
set_option maxHeartbeats 4000000 in
theorem obj_ok (c b : Nat) (sz nd at_ i : Int) (w : World) (h0 : w.cell? ⟨b, 0, none⟩ = some (.int .i64 nd)) (h1 : w.cell? ⟨b, 1, none⟩ = some (.int .i64 at_)) (hc : w.cell? ⟨c, 1, none⟩ = some (.int .i64 sz)) (ha : 0 ≤ at_ ∧ at_ < 256) (hs : 1 ≤ sz ∧ sz ≤ 64) (hi : 0 ≤ i ∧ i < 64) :
   Calls Tryz.prog 52 #[ptr c, ptr b, .int .i64 i] w fun ev w' => ev = .returned (objV nd (at_ * 64 + i * sz)) ∧ Below w.heap.size w w' := by
 obtain ⟨q, hq⟩ : ∃ q, q = i * sz := ⟨_, rfl⟩
 have q0 : 0 ≤ q := by rw [hq]; exact Int.mul_nonneg hi.1 (by omega)
 have q1 : q ≤ 64 * 64 := by
   rw [hq]
   exact Int.mul_le_mul (by omega) hs.2 (by omega) (by omega)
 rw [← hq]
 have m1 : IntKind.i64.wrap (i * sz) = q := by rw [← hq]; exact IntWalk.i64_in _ (by omega)
 have m2 : IntKind.i64.wrap (at_ * 64) = at_ * 64 := IntWalk.i64_in _ (by omega)
 have m3 : IntKind.i64.wrap (at_ * 64 + q) = at_ * 64 + q := IntWalk.i64_in _ (by omega)
 have lb := World.block_lt_of_cell? w _ h0
 have lc := World.block_lt_of_cell? w _ hc
 simp only at lb lc
 have F1 := ballo (Below.refl w.heap.size w) (.cells #[.int .i64 0, .int .i64 0] 42)
 have k0 := (F1.cell (p := ⟨b, 0, none⟩) lb).trans h0
 have k1 := (F1.cell (p := ⟨b, 1, none⟩) lb).trans h1
 have k2 := (F1.cell (p := ⟨c, 1, none⟩) lc).trans hc
 have r := World.cell?_alloc_new w #[.int .i64 0, .int .i64 0] 42
 have r0 := r 0
 have r1 := r 1
 have f0 : ∀ o, (w.alloc (.cells #[.int .i64 0, .int .i64 0] 42)).frozen? ⟨w.heap.size, o, none⟩ = false := fun o => World.frozen?_alloc_at _ _ w.heap.size o rfl
 have f00 := f0 0
 have f01 := f0 1
 simp only [List.getElem?_toArray, List.getElem?_cons_zero, List.getElem?_cons_succ] at r0 r1
 have hne1 : b ≠ w.heap.size := by omega
 have hne2 : c ≠ w.heap.size := by omega
 have HF := hide F1
 clear h0 h1 hc F1 r f0 hq
 unfold ptr objV at *
 go_enter Tryz.func52, Tryz.ntmps52
 go_upto_region 1 with (fail)
 generalize w.alloc (.cells #[.int .i64 0, .int .i64 0] 42) = W at *
 have HK : Hid (∀ u v, ((W.setCell ⟨w.heap.size, 0, none⟩ u).setCell ⟨w.heap.size, 1, none⟩ v).cell? ⟨b, 0, none⟩ = some (.int .i64 nd) ∧ ((W.setCell ⟨w.heap.size, 0, none⟩ u).setCell ⟨w.heap.size, 1, none⟩ v).cell? ⟨b, 1, none⟩ = some (.int .i64 at_) ∧ ((W.setCell ⟨w.heap.size, 0, none⟩ u).setCell ⟨w.heap.size, 1, none⟩ v).cell? ⟨c, 1, none⟩ = some (.int .i64 sz)) := fun u v =>
   ⟨(cso (by simp <;> omega)).trans ((cso (by simp <;> omega)).trans k0), (cso (by simp <;> omega)).trans ((cso (by simp <;> omega)).trans k1), (cso (by simp <;> omega)).trans ((cso (by simp <;> omega)).trans k2)⟩
 have t0 : ∀ u v, ((W.setCell ⟨w.heap.size, 0, none⟩ u).setCell ⟨w.heap.size, 1, none⟩ v).cell? ⟨w.heap.size, 0, none⟩ = some u := fun u v => (cso (by simp)).trans (css r0)
 have t1 : ∀ u v, ((W.setCell ⟨w.heap.size, 0, none⟩ u).setCell ⟨w.heap.size, 1, none⟩ v).cell? ⟨w.heap.size, 1, none⟩ = some v := fun u v => css ((cso (by simp)).trans r1)
 go_region_held3 (fun w' => w'.cell? ⟨b, 0, none⟩ = some (.int .i64 nd) ∧ w'.cell? ⟨b, 1, none⟩ = some (.int .i64 at_) ∧ w'.cell? ⟨c, 1, none⟩ = some (.int .i64 sz)) ((first | (go_keep; done) | (exact (unhide HK) _ _))) (fail)
 go_wp2
 refine bodyPost_ret (v := .agg #[.int .i64 nd, .int .i64 (at_ * 64 + q)]) (by simp [results, Tryz.results52, go_sem, t0, t1]; try rfl) rfl ?_
 exact ⟨rfl, (((unhide HF).setCell (Nat.le_refl _) _).setCell (Nat.le_refl _) _).drew⟩
end Sb
end Go.Proofs.YtfefehkapffljaaGreatDoor
