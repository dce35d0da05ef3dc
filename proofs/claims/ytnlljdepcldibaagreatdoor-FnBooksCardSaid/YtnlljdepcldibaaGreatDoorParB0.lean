/-
  ParseInt of the program: what it answers, at every text.
  Conditions: the library's table and its two errors are there, as the row's list says.
-/
import Derived.Test.YtnlljdepcldibaaGreatDoorReadB0
import Derived.Test.YtnlljdepcldibaaGreatDoorShelfAtoi
import Derived.WalkSmall
import Derived.Lib.AtoiErrMem
import Derived.Stop.LaidErr
namespace Go.Proofs.YtnlljdepcldibaaGreatDoor.parc
open Go.RowKit
open nummath fmtb readc
set_option linter.unusedVariables false

/-- what the program's variables hold -/
def Vars (w : World) : Prop :=
  Lib.TabIs Tryz.prog w "internal/strconv.uint64pow10" .u64 Lib.pow10Tab ∧ (∃ tp p, w.var? Tryz.prog "strconv.ErrSyntax" = some #[.iface tp p]) ∧ ∃ tp p, w.var? Tryz.prog "strconv.ErrRange" = some #[.iface tp p]

theorem var_lt {w : World} {n : String} {g : Nat} {cs : Array Value} (hg : Tryz.prog.globalNamed n = some g) (h : w.var? Tryz.prog n = some cs) : g < w.heap.size := by
  rcases Nat.lt_or_ge g w.heap.size with hlt | hge
  · exact hlt
  · unfold World.var? at h
    simp only [hg, Option.bind_some, Array.getElem?_eq_none hge] at h
    simp at h
theorem tab_below {w w' : World} (hb : Below w.heap.size w w') (h : Lib.TabIs Tryz.prog w "internal/strconv.uint64pow10" .u64 Lib.pow10Tab) : Lib.TabIs Tryz.prog w' "internal/strconv.uint64pow10" .u64 Lib.pow10Tab :=
  var?_below hb gTab (var_lt gTab h) h

theorem atoi_ok (s : ByteArray) (v : Int) (w : World) (hs : s.size ≤ 1048576) (h : Lib.atoiAll s.data.toList = .ok v) :
    Calls Tryz.prog 69 #[.string s] w fun e w' => e = .returned (.tuple #[.int .i64 v, .nilIface]) ∧ Below w.heap.size w w' := by
  refine (Any.strconv_Atoi_ok Tryz.laysC172 s (by omega) v h w).mono ?_
  rintro e w' ⟨rfl, hw⟩
  refine ⟨rfl, ?_⟩
  rcases hw with rfl | ⟨t, rfl⟩
  · exact Below.refl _ _
  · exact Lib.bytesWorld_below _ _ _

def Bad (w : World) (e : Ending) (w' : World) : Prop := ∃ (x : Int) (N : Nat), e = .returned (.tuple #[.int .i64 x, .iface 111 (.pointer (some ⟨N, 0, none⟩))]) ∧ Below w.heap.size w w'

theorem atoi_bad (s : ByteArray) (w : World) (hs : s.size ≤ 1048576) (h : ∀ v, Lib.atoiAll s.data.toList ≠ .ok v) (hV : Vars w) :
    Calls Tryz.prog 69 #[.string s] w (Bad w) := by
  obtain ⟨_, ⟨t1, p1, h1⟩, ⟨t2, p2, h2⟩⟩ := hV
  cases hq : Lib.atoiAll s.data.toList
  · exact absurd hq (h _)
  · refine (Any.strconv_Atoi_syntax_var Tryz.laysC172 s (by omega) hq t1 p1 w h1).mono ?_
    rintro e w' ⟨N, rfl, _, _, hb⟩
    exact ⟨_, N, rfl, hb⟩
  · refine (Any.strconv_Atoi_range_var Tryz.laysC172 s (by omega) hq t2 p2 w h2).mono ?_
    rintro e w' ⟨N, rfl, _, _, hb⟩
    exact ⟨_, N, rfl, hb⟩

/-- what ParseInt answers -/
def PPost (s : ByteArray) (w : World) (e : Ending) (w' : World) : Prop :=
  ((∃ n, IsNum s n ∧ e = .returned (.tuple #[.int .i64 n, .bool true])) ∨ ((∀ n, ¬ IsNum s n) ∧ e = .returned (.tuple #[.int .i64 0, .bool false]))) ∧ Below w.heap.size w w'

set_option maxHeartbeats 1000000 in
theorem par_any (s : ByteArray) (w : World) (hs : s.size ≤ 1048576) (hV : Vars w) :
    Calls Tryz.prog 53 #[.string s] w (PPost s w) := by
  by_cases hex : ∃ v, Lib.atoiAll s.data.toList = .ok v
  · obtain ⟨v, hv⟩ := hex
    have hbd := Lib.atoiAll_bounds hv
    have HV := Lib.hid hv
    have HT := Lib.hid hV.1
    obtain ⟨bd1, bd2⟩ := hbd
    clear hv hV
    by_cases hin : v < -999999 ∨ 999999 < v
    · have HN := Lib.hid hin
      clear hin
      go_enter Tryz.func53, Tryz.ntmps53
      go_wp2_with fail
      refine (atoi_ok s v _ hs HV.out).mono ?_
      rintro e w1 ⟨rfl, b1⟩
      go_wp2_with fail
      refine (fmt_out _ _ HN.out).mono ?_
      rintro e w' ⟨rfl, rfl⟩
      go_wp2_with fail
      go_ret2
      refine ⟨.inr ⟨?_, rfl⟩, b1⟩
      rintro n ⟨h0, h1, e⟩
      have := num_atoi e h0 h1
      rw [HV.out] at this
      injection this with this
      have := HN.out
      omega
    · have h0 : -999999 ≤ v := by omega
      have h1 : v ≤ 999999 := by omega
      clear hin bd1 bd2
      by_cases hq : s.data.toList = Lib.itoa v
      · have b0 : (Lib.itoa v == s.toList) = true := by rw [ByteArray.toList_eq, hq]; simp
        have HQ := Lib.hid hq
        clear hq
        go_enter Tryz.func53, Tryz.ntmps53
        go_wp2_with fail
        refine (atoi_ok s v _ hs HV.out).mono ?_
        rintro e w1 ⟨rfl, b1⟩
        go_wp2_with fail
        refine (fmt_in _ _ h0 h1 (tab_below b1 HT.out)).mono ?_
        rintro e w2 ⟨rfl, b2⟩
        go_wp2_with fail
        go_ret2
        exact ⟨.inl ⟨_, ⟨h0, h1, HQ.out⟩, rfl⟩, b1.trans (b2.mono b1.size)⟩
      · have b0 : (Lib.itoa v == s.toList) = false := by rw [ByteArray.toList_eq]; simpa using fun e => hq e.symm
        have HQ := Lib.hid hq
        clear hq
        go_enter Tryz.func53, Tryz.ntmps53
        go_wp2_with fail
        refine (atoi_ok s v _ hs HV.out).mono ?_
        rintro e w1 ⟨rfl, b1⟩
        go_wp2_with fail
        refine (fmt_in _ _ h0 h1 (tab_below b1 HT.out)).mono ?_
        rintro e w2 ⟨rfl, b2⟩
        go_wp2_with fail
        go_ret2
        refine ⟨.inr ⟨?_, rfl⟩, b1.trans (b2.mono b1.size)⟩
        rintro n ⟨h0, h1, e⟩
        have := num_atoi e h0 h1
        rw [HV.out] at this
        injection this with this
        subst this
        exact HQ.out e
  · have HE := Lib.hid (show ∀ v, Lib.atoiAll s.data.toList ≠ .ok v from fun v e => hex ⟨v, e⟩)
    have HV := Lib.hid hV
    clear hex hV
    go_enter Tryz.func53, Tryz.ntmps53
    go_wp2_with fail
    refine (atoi_bad s _ hs HE.out HV.out).mono ?_
    rintro e w1 ⟨x, N, rfl, b1⟩
    go_wp2_with fail
    go_ret2
    refine ⟨.inr ⟨?_, rfl⟩, b1⟩
    rintro n ⟨h0, h1, e⟩
    exact HE.out n (num_atoi e h0 h1)

end Go.Proofs.YtnlljdepcldibaaGreatDoor.parc
