/-
  What the two laws of the angles share: where a law stands, the answers by their forms, the distance.
  Conditions: the code has at most 65536 bytes, the variable holds the table of the sines.
-/
import Derived.Test.YtekbiapgbhaibabDoorAngC
import Derived.Test.YtekbiapgbhaibabDoorAngX
import Derived.Test.YtekbiapgbhaibabDoorAngD
namespace Go.Proofs.YtekbiapgbhaibabDoor.angf
open Go.RowKit
open ang angi angc
set_option linter.unusedVariables false

/-- where the law stands: the code reads, the variable is as it was -/
def St (w : World) (A : Option Addr) (n : Nat) (zs : List UInt8) (v : World) : Prop := Below w.heap.size w v ∧ curs.Code v A n zs ∧ Tab v
theorem St.step {w v v' : World} {A : Option Addr} {n : Nat} {zs : List UInt8} (h : St w A n zs v) (hb : Below v.heap.size v v') : St w A n zs v' :=
  ⟨h.1.trans (hb.mono h.1.size), h.2.1.below hb, h.2.2.below hb⟩
theorem St.tab {w v : World} {A : Option Addr} {n : Nat} {zs : List UInt8} (h : St w A n zs v) : Hid (Tab v) := h.2.2

theorem big_yes (A : Option Addr) (n cap : Nat) (w : World) (h : 65536 < n) (hm : n ≤ maxLen) :
    Calls Tryd.prog 10 #[.slice A n cap] w fun e w' => e = .returned (.bool true) ∧ w = w' := by
  unfold maxLen at hm
  have hd : decide (65536 < n) = true := by simpa using h
  have hd2 : decide (65536 < (n : Int)) = true := by simp; omega
  go_enter Tryd.func10, Tryd.ntmps10
  go_wp2_with fail
  go_ret
  exact ⟨rfl, rfl⟩
theorem big_no (A : Option Addr) (n cap : Nat) (w : World) (h : n ≤ 65536) :
    Calls Tryd.prog 10 #[.slice A n cap] w fun e w' => e = .returned (.bool false) ∧ w = w' := by
  have hd : decide (65536 < n) = false := by simpa using h
  have hd2 : decide (65536 < (n : Int)) = false := by simp; omega
  go_enter Tryd.func10, Tryd.ntmps10
  go_wp2_with fail
  go_ret
  exact ⟨rfl, rfl⟩
/-- the distance from 0 -/
def far (x : Int) : Int := if x < 0 then -x else x
theorem far_any (x v : Int) (w : World) (h : Hid (far x = v)) (h0 : -1000000000000000 ≤ x) (h1 : x ≤ 1000000000000000) :
    Calls Tryd.prog 19 #[.int .i64 x] w fun e w' => e = .returned (.int .i64 v) ∧ w = w' := by
  by_cases c : x < 0
  · have HV := Lib.hid (show v = -x by rw [← h.out]; exact if_pos c)
    go_enter Tryd.func19, Tryd.ntmps19
    go_wp2_with fail
    go_ret
    exact ⟨by rw [HV.out]; rfl, rfl⟩
  · have HV := Lib.hid (show v = x by rw [← h.out]; exact if_neg c)
    go_enter Tryd.func19, Tryd.ntmps19
    go_wp2_with fail
    go_ret
    exact ⟨by rw [HV.out]; rfl, rfl⟩

/-- an angle's sine and cosine, known or not -/
structure SC (d sv cv : Int) (ok : Bool) : Prop where
  s : ansSine d = .tuple #[.int .i64 sv, .bool ok]
  c : ansCosine d = .tuple #[.int .i64 cv, .bool ok]
  yes : ok = true → (-3600 ≤ d ∧ d ≤ 3600) ∧ sv = sinZ d ∧ cv = cosZ d
  bd : (-1000 ≤ sv ∧ sv ≤ 1000) ∧ (-1000 ≤ cv ∧ cv ≤ 1000)
theorem sc_any (d : Int) : ∃ sv cv ok, SC d sv cv ok := by
  by_cases h : -3600 ≤ d ∧ d ≤ 3600
  · exact ⟨sinZ d, cosZ d, true, if_pos h, if_pos h, fun _ => ⟨h, rfl, rfl⟩, sinZ_bd d, cosZ_bd d⟩
  · exact ⟨0, 0, false, if_neg h, if_neg h, fun c => (by cases c), by omega, by omega⟩
theorem sc_ok {d : Int} (h0 : -3600 ≤ d) (h1 : d ≤ 3600) : ansSine d = .tuple #[.int .i64 (sinZ d), .bool true] ∧ ansCosine d = .tuple #[.int .i64 (cosZ d), .bool true] := ⟨if_pos ⟨h0, h1⟩, if_pos ⟨h0, h1⟩⟩
/-- a sine that may be out of the limits -/
theorem s_any (d v : Int) (h : sinZ d = v) : ∃ (x : Int) (t : Bool), ansSine d = .tuple #[.int .i64 x, .bool t] ∧ (t = false ∨ (t = true ∧ x = v)) := by
  by_cases k : -3600 ≤ d ∧ d ≤ 3600
  · exact ⟨sinZ d, true, if_pos k, .inr ⟨rfl, h⟩⟩
  · exact ⟨0, false, if_neg k, .inl rfl⟩
structure DV (a b q : Int) (ok : Bool) : Prop where
  s : ansDiv a b = .tuple #[.int .i64 q, .bool ok]
  yes : ok = true → ((-1000000000 ≤ a ∧ a ≤ 1000000000) ∧ (1 ≤ b ∧ b ≤ 1000000)) ∧ q = rdiv a b
theorem dv_any (a b : Int) : ∃ q ok, DV a b q ok := by
  by_cases h : (-1000000000 ≤ a ∧ a ≤ 1000000000) ∧ (1 ≤ b ∧ b ≤ 1000000)
  · exact ⟨_, true, if_pos h, fun _ => ⟨h, rfl⟩⟩
  · exact ⟨0, false, if_neg h, fun c => (by cases c)⟩
theorem dv_bd {a b q : Int} {ok : Bool} (h : DV a b q ok) (hk : ok = true) : (1 ≤ b ∧ b ≤ 1000000) ∧ (-1000000000 ≤ a ∧ a ≤ 1000000000) ∧ -b ≤ 2 * (q * b - a) ∧ 2 * (q * b - a) ≤ b := by
  obtain ⟨⟨h1, h2⟩, rfl⟩ := h.yes hk
  have k := rdiv_near a b h2.1
  exact ⟨h2, h1, k⟩
structure PA (a d x y : Int) (ok : Bool) : Prop where
  s : ansPart a d = .tuple #[.int .i64 x, .int .i64 y, .bool ok]
  opp : ok = true → ansPart (-a) d = .tuple #[.int .i64 (-x), .int .i64 (-y), .bool true]
  bd : (-1000000000 ≤ x ∧ x ≤ 1000000000) ∧ (-1000000000 ≤ y ∧ y ≤ 1000000000)
theorem rdiv_k (a : Int) (h0 : -100000000 ≤ a) (h1 : a ≤ 100000000) : -1000000000 ≤ rdiv a 1000 ∧ rdiv a 1000 ≤ 1000000000 := by
  have k := rdiv_near a 1000 (by decide)
  omega
theorem pa_any (a d : Int) : ∃ x y ok, PA a d x y ok := by
  by_cases h : (-100000 ≤ a ∧ a ≤ 100000) ∧ (-3600 ≤ d ∧ d ≤ 3600)
  · have hs := sinZ_bd d
    have hc := cosZ_bd d
    obtain ⟨s0, s1⟩ := prod_bd a (sinZ d) h.1.1 h.1.2 hs.1 hs.2
    obtain ⟨c0, c1⟩ := prod_bd a (cosZ d) h.1.1 h.1.2 hc.1 hc.2
    refine ⟨_, _, true, if_pos h, fun _ => ?_, rdiv_k _ c0 c1, rdiv_k _ s0 s1⟩
    rw [show ansPart (-a) d = _ from if_pos ⟨by omega, h.2⟩, Int.neg_mul, Int.neg_mul, rdiv_neg _ _ (by decide), rdiv_neg _ _ (by decide)]
  · exact ⟨0, 0, false, if_neg h, fun c => (by cases c), by omega, by omega⟩
structure TN (a b t : Int) (ok : Bool) : Prop where
  s : ansTurn a b = .tuple #[.int .i64 t, .bool ok]
  r : ansTurn b a = .tuple #[.int .i64 t, .bool ok]
  bd : 0 ≤ t ∧ t ≤ 180
theorem tn_any (a b : Int) : ∃ t ok, TN a b t ok := by
  by_cases h : (0 ≤ a ∧ a ≤ 359) ∧ (0 ≤ b ∧ b ≤ 359)
  · refine ⟨turn a b, true, if_pos h, ?_, turn_bd a b⟩
    rw [turn_comm]; exact if_pos ⟨h.2, h.1⟩
  · exact ⟨0, false, if_neg h, if_neg (fun c => h ⟨c.2, c.1⟩), by omega, by omega⟩
end Go.Proofs.YtekbiapgbhaibabDoor.angf
