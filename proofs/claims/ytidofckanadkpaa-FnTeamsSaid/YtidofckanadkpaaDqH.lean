/-
  What the walks of the laws of teams share.
  Conditions: the code has at most 65536 bytes.
-/
import Derived.Test.YtidofckanadkpaaDpM
import Derived.Test.YtidofckanadkpaaDqM
import Derived.Test.YtidofckanadkpaaEnd
import Derived.Deep.DeepCutAuto
namespace Go.Proofs.Ytidofckanadkpaa.tea
open Go.RowKit
open reads base curs curd ty rowi psk psl psm psn pso psp pq dps
set_option linter.unusedVariables false
set_option linter.unusedSimpArgs false

def LawPost (w : World) (e : Ending) (w' : World) : Prop := e = .returned (.bool true) ∧ Below w.heap.size w w'
/-- where the law stands: nothing old has turned, the code reads -/
def St (w : World) (A : Option Addr) (n : Nat) (zs : List UInt8) (v : World) : Prop := Below w.heap.size w v ∧ curs.Code v A n zs
theorem St.step {w v v' : World} {A : Option Addr} {n : Nat} {zs : List UInt8} (h : St w A n zs v) (hb : Below v.heap.size v v') : St w A n zs v' := ⟨h.1.trans (hb.mono h.1.size), h.2.below hb⟩
theorem rints_b {A A' : Option Addr} {n c c' : Nat} {xs : List Int} {w : World} (hn : n ≤ 2000000) (h : Hid (ints.IL w A n xs)) (h' : Hid (ints.IL w A' n xs)) :
    Calls Try.prog 18 #[.slice A n c, .slice A' n c'] w (BPost true w) :=
  (rs.rints_any A A' n c c' xs w hn h h').mono (by rintro e w' ⟨rfl, m, rfl⟩; exact ⟨rfl, ends.below_drewN (Below.refl _ _) m⟩)
section
variable {A A' : Option Addr} {n cap m cap' : Nat} {ts : List Ps} {xs : List Int} {q : Int} {w : World}
theorem small_m {I : List Int} {B : Bool} (hI : Hid (smIds ts q = I)) (hB : Hid (decide (0 < I.length) = B)) (hn : n ≤ 2000000) (hs : Hid (∀ t ∈ ts, t.name.size ≤ 1048576)) (hts : Hid (PsAt w w.heap.size A n ts)) : Calls Try.prog 17 #[.slice A n cap, .int .i64 q] w (LPost I B w) := by
  rw [← hB.out, ← hI.out]; exact smallest_model A n cap ts q w hn hs hts
theorem trip_m {P : List Ps} {B : Bool} (hP : Hid (gtPs ts xs = P)) (hB : Hid (gtOk ts xs = B)) (hn : n ≤ 2000000) (hm : m ≤ 2000000) (hs : Hid (∀ t ∈ ts, t.name.size ≤ 1048576)) (hts : Hid (PsAt w w.heap.size A n ts)) (hxs : Hid (InAt w w.heap.size A' m xs)) : Calls Try.prog 23 #[.slice A n cap, .slice A' m cap'] w (PPost P B w) := by
  rw [← hB.out, ← hP.out]; exact goOnTrip_model A n cap ts A' m cap' xs w hn hm hs hts hxs
theorem is_m {v : Value} (hv : Hid (ansIs ts xs = v)) (hn : n ≤ 2000000) (hm : m ≤ 2000000) (hs : Hid (∀ t ∈ ts, t.name.size ≤ 1048576)) (hts : Hid (PsAt w w.heap.size A n ts)) (hxs : Hid (InAt w w.heap.size A' m xs)) : Calls Try.prog 26 #[.slice A n cap, .slice A' m cap'] w (APost v w) := by
  rw [← hv.out]; exact isTeam_model A n cap ts A' m cap' xs w hn hm hs hts hxs
theorem sk_m {v : Value} (hv : Hid (ansSk ts xs = v)) (hn : n ≤ 2000000) (hm : m ≤ 2000000) (hs : Hid (∀ t ∈ ts, t.name.size ≤ 1048576)) (hts : Hid (PsAt w w.heap.size A n ts)) (hxs : Hid (InAt w w.heap.size A' m xs)) : Calls Try.prog 42 #[.slice A n cap, .slice A' m cap'] w (APost v w) := by
  rw [← hv.out]; exact skillsOf_model A n cap ts A' m cap' xs w hn hm hs hts hxs
theorem ms_m {v : Value} (hv : Hid (ansMs ts xs q = v)) (hn : n ≤ 2000000) (hm : m ≤ 2000000) (hs : Hid (∀ t ∈ ts, t.name.size ≤ 1048576)) (hts : Hid (PsAt w w.heap.size A n ts)) (hxs : Hid (InAt w w.heap.size A' m xs)) : Calls Try.prog 28 #[.slice A n cap, .slice A' m cap', .int .i64 q] w (APost v w) := by
  rw [← hv.out]; exact missing_model A n cap ts A' m cap' xs q w hn hm hs hts hxs
theorem people_m {b : Bool} (hb : Hid (psg.good ts = b)) (hn : n ≤ 2000000) (hs : Hid (∀ t ∈ ts, t.name.size ≤ 1048576)) (hts : Hid (PsAt w w.heap.size A n ts)) : Calls Try.prog 31 #[.slice A n cap] w (BPost b w) := by
  rw [← hb.out]; exact arePeople_model A n cap ts w hn hs hts
theorem ws_m {I : List Int} {B : Bool} (hI : Hid (wsIds ts q = I)) (hB : Hid (wsOk ts q = B)) (hn : n ≤ 2000000) (hs : Hid (∀ t ∈ ts, t.name.size ≤ 1048576)) (hts : Hid (PsAt w w.heap.size A n ts)) : Calls Try.prog 40 #[.slice A n cap, .int .i64 q] w (LPost I B w) := by
  rw [← hB.out, ← hI.out]; exact withSkills_model A n cap ts q w hn hs hts
theorem ct_m {v : Value} (hv : Hid (ansCt ts = v)) (hn : n ≤ 2000000) (hs : Hid (∀ t ∈ ts, t.name.size ≤ 1048576)) (hts : Hid (PsAt w w.heap.size A n ts)) : Calls Try.prog 37 #[.slice A n cap] w (APost v w) := by
  rw [← hv.out]; exact countTeams_model A n cap ts w hn hs hts
theorem split_m {R : List (List Int)} {B : Bool} (hR : Hid (stTss ts = R)) (hB : Hid (psg.good ts = B)) (hn : n ≤ 2000000) (hs : Hid (∀ t ∈ ts, t.name.size ≤ 1048576)) (hts : Hid (PsAt w w.heap.size A n ts)) : Calls Try.prog 34 #[.slice A n cap] w (TPost R B w) := by
  rw [← hB.out, ← hR.out]; exact splitTeams_model A n cap ts w hn hs hts
end
end Go.Proofs.Ytidofckanadkpaa.tea
