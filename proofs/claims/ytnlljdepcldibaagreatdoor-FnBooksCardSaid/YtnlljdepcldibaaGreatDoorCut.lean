/-
  strings.Cut at one byte: what it answers.
  Conditions: the text has at most 1048576 bytes.
-/
import Derived.Test.YtnlljdepcldibaaGreatDoorShelfCut
import Derived.Test.YtnlljdepcldibaaGreatDoorBase
import Derived.Test.YtnlljdepcldibaaGreatDoorStrMath
import Derived.Deep.QuietTactic
import Derived.BigQuiet
import Derived.Lib.Strings
namespace Go.Proofs.YtnlljdepcldibaaGreatDoor.cut
open Go.RowKit
open base strmath
set_option linter.unusedVariables false
set_option linter.unusedSimpArgs false

theorem ix_miss (c : UInt8) : ∀ l : List UInt8, c ∉ l → Lib.indexByte l c = -1
  | [], _ => rfl
  | b :: l, h => by
    have hb : (b == c) = false := by simpa using fun e => h (by rw [e]; simp)
    have ih := ix_miss c l (fun k => h (List.mem_cons_of_mem _ k))
    unfold Lib.indexByte
    rw [if_neg (by rw [hb]; simp), ih]; rfl
theorem ix_hit (c : UInt8) : ∀ p q : List UInt8, c ∉ p → Lib.indexByte (p ++ c :: q) c = p.length
  | [], q, _ => by
    show Lib.indexByte (c :: q) c = 0
    unfold Lib.indexByte
    rw [if_pos (by simp)]
  | b :: p, q, h => by
    have hb : (b == c) = false := by simpa using fun e => h (by rw [e]; simp)
    have ih := ix_hit c p q (fun k => h (List.mem_cons_of_mem _ k))
    show Lib.indexByte (b :: (p ++ c :: q)) c = _
    unfold Lib.indexByte
    rw [if_neg (by rw [hb]; simp), ih]
    have e : (((p.length : Nat) : Int) == -1) = false := by rw [beq_eq_false_iff_ne]; omega
    rw [if_neg (by rw [e]; simp)]
    simp
def CPost (a b : ByteArray) (ok : Bool) (w : World) (e : Ending) (w' : World) : Prop := e = .returned (.tuple #[.string a, .string b, .bool ok]) ∧ Below w.heap.size w w'
set_option maxHeartbeats 4000000 in
set_option maxRecDepth 100000 in
theorem cutlite_no (s : ByteArray) (c : UInt8) (w : World) (h : Hid (c ∉ s.data.toList)) : Calls Tryz.prog 59 #[.string s, .string ⟨#[c]⟩] w (CPost s ⟨#[]⟩ false w) := by
  have HI := Lib.hid (ix_miss c s.data.toList h.out)
  go_enter Tryz.func59, Tryz.ntmps59
  go_wp2_with fail
  refine (Tryz.stringslite_Index_one s c _).mono ?_
  rintro e w' ⟨rfl, rfl⟩
  rw [HI.out]
  go_wp2_with fail
  go_ret3
  exact ⟨rfl, Below.refl _ _⟩
set_option maxHeartbeats 4000000 in
set_option maxRecDepth 100000 in
theorem cutlite_yes (s p q : ByteArray) (c : UInt8) (w : World) (h : Hid (s.data.toList = p.data.toList ++ c :: q.data.toList)) (hno : Hid (c ∉ p.data.toList)) (hs : s.size ≤ 1048576) : Calls Tryz.prog 59 #[.string s, .string ⟨#[c]⟩] w (CPost p q true w) := by
  have HI := Lib.hid (show Lib.indexByte s.data.toList c = (p.size : Int) by rw [h.out]; exact ix_hit c _ _ hno.out)
  have hl : s.size = p.size + 1 + q.size := by
    have k := congrArg List.length h.out
    rw [List.length_append, List.length_cons] at k
    have e1 : s.data.toList.length = s.size := rfl
    have e2 : p.data.toList.length = p.size := rfl
    have e3 : q.data.toList.length = q.size := rfl
    omega
  have he1 : s.extract 0 p.size = p := by
    refine ByteArray.ext (Array.toList_inj.1 ?_)
    rw [Lib.extract_data, h.out]
    rw [List.drop_zero, Nat.sub_zero, show p.size = p.data.toList.length from rfl, List.take_left]
  have he2 : s.extract (p.size + 1) s.size = q := by
    refine ByteArray.ext (Array.toList_inj.1 ?_)
    rw [Lib.extract_data, h.out]
    rw [show p.size + 1 = (p.data.toList ++ [c]).length by rw [List.length_append, List.length_singleton]; rfl, show p.data.toList ++ c :: q.data.toList = (p.data.toList ++ [c]) ++ q.data.toList by simp, List.drop_left]
    exact List.take_of_length_le (by have e3 : q.data.toList.length = q.size := rfl; rw [List.length_append, List.length_singleton]; have e2 : p.data.toList.length = p.size := rfl; omega)
  have hp0 : 0 ≤ (p.size : Int) := by omega
  have hp1 : (p.size : Int) ≤ (s.size : Int) := by omega
  have hp2 : (p.size : Int) + 1 ≤ (s.size : Int) := by omega
  have hp3 : p.size ≤ s.size := by omega
  have hp4 : p.size + 1 ≤ s.size := by omega
  have hpb : (p.size : Int) ≤ 1048576 := by omega
  clear hl
  go_enter Tryz.func59, Tryz.ntmps59
  go_wp2_with fail
  refine (Tryz.stringslite_Index_one s c _).mono ?_
  rintro e w' ⟨rfl, rfl⟩
  rw [HI.out]
  go_wp2_with fail
  go_quiet (fail)
  go_wp2_with fail
  go_ret3
  exact ⟨rfl, drewN_below _ _⟩
set_option maxHeartbeats 4000000 in
set_option maxRecDepth 100000 in
theorem cut_no (s : ByteArray) (c : UInt8) (w : World) (h : Hid (c ∉ s.data.toList)) : Calls Tryz.prog 39 #[.string s, .string ⟨#[c]⟩] w (CPost s ⟨#[]⟩ false w) := by
  go_enter Tryz.func39, Tryz.ntmps39
  go_wp2_with fail
  refine (cutlite_no s c _ h).mono ?_
  rintro e w1 ⟨rfl, b⟩
  have HB := Lib.hid b
  clear b
  go_wp2_with fail
  go_ret3
  exact ⟨rfl, HB.out⟩
set_option maxHeartbeats 4000000 in
set_option maxRecDepth 100000 in
theorem cut_yes (s p q : ByteArray) (c : UInt8) (w : World) (h : Hid (s.data.toList = p.data.toList ++ c :: q.data.toList)) (hno : Hid (c ∉ p.data.toList)) (hs : s.size ≤ 1048576) : Calls Tryz.prog 39 #[.string s, .string ⟨#[c]⟩] w (CPost p q true w) := by
  go_enter Tryz.func39, Tryz.ntmps39
  go_wp2_with fail
  refine (cutlite_yes s p q c _ h hno hs).mono ?_
  rintro e w1 ⟨rfl, b⟩
  have HB := Lib.hid b
  clear b
  go_wp2_with fail
  go_ret3
  exact ⟨rfl, HB.out⟩
end Go.Proofs.YtnlljdepcldibaaGreatDoor.cut
