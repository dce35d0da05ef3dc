/-
  The contracts of the declination in letters; equal lists of points; what FnDeclinations and FnPoints ask of the answers.
  Conditions: none but those that a theorem names.
-/
import Derived.Test.YtiimegmaokfpgaaCurs
import Derived.Test.YtiimegmaokfpgaaCurD
import Derived.Test.YtiimegmaokfpgaaVaD
import Derived.Test.YtiimegmaokfpgaaVaE
import Derived.Test.YtiimegmaokfpgaaVaF
import Derived.Test.YtiimegmaokfpgaaVaI
import Derived.Test.YtiimegmaokfpgaaVaK
import Derived.Test.YtiimegmaokfpgaaVaL
import Derived.Test.YtiimegmaokfpgaaVaM
import Derived.Test.YtiimegmaokfpgaaVaN
import Derived.Test.YtiimegmaokfpgaaVaO
import Derived.Test.YtiimegmaokfpgaaVaP
import Derived.Test.YtiimegmaokfpgaaRs
import Derived.Test.YtiimegmaokfpgaaEnd
import Derived.Deep.DeepCutAuto
namespace Go.Proofs.Ytiimegmaokfpgaa.dpw
open Go.RowKit
open reads base curs curd ty va rowi
set_option linter.unusedVariables false
set_option linter.unusedSimpArgs false

def LawPost (w : World) (e : Ending) (w' : World) : Prop := e = .returned (.bool true) ∧ Below w.heap.size w w'
/-- where the law stands: nothing old has turned, the code reads -/
def St (w : World) (A : Option Addr) (n : Nat) (zs : List UInt8) (v : World) : Prop := Below w.heap.size w v ∧ curs.Code v A n zs
theorem St.step {w v v' : World} {A : Option Addr} {n : Nat} {zs : List UInt8} (h : St w A n zs v) (hb : Below v.heap.size v v') : St w A n zs v' := ⟨h.1.trans (hb.mono h.1.size), h.2.below hb⟩
theorem St.alloc {w v : World} {A : Option Addr} {n : Nat} {zs : List UInt8} (h : St w A n zs v) (o : Obj) : St w A n zs (v.alloc o) := h.step ((Below.refl _ _).alloc (Nat.le_refl _) o)
theorem St.drew {w v : World} {A : Option Addr} {n : Nat} {zs : List UInt8} (h : St w A n zs v) : St w A n zs v.drew := h.step (drewN_below _ 1)
theorem rints_b {A A' : Option Addr} {n c c' : Nat} {xs : List Int} {w : World} (hn : n ≤ 2000000) (h : Hid (ints.IL w A n xs)) (h' : Hid (ints.IL w A' n xs)) :
    Calls Try.prog 24 #[.slice A n c, .slice A' n c'] w (BPost true w) :=
  (rs.rints_any A A' n c c' xs w hn h h').mono (by rintro e w' ⟨rfl, m, rfl⟩; exact ⟨rfl, drewN_below _ m⟩)
set_option maxHeartbeats 4000000 in
set_option maxRecDepth 100000 in
theorem rpoints_any (A A' : Option Addr) (n c c' : Nat) (ts : List Dp) (w : World) (hn : n ≤ 2000000) (h : Hid (DpAt w w.heap.size A n ts)) (h' : Hid (DpAt w w.heap.size A' n ts)) :
    Calls Try.prog 35 #[.slice A n c, .slice A' n c'] w (BPost true w) := by
  go_enter Try.func35, Try.ntmps35
  go_wp2_with fail
  go_loopw [5] (fun i wr => ∃ k m : Nat, k ≤ n ∧ i = .int .i64 k ∧ wr = w.drewN m) (fun i _ => n - (intOf i).toNat)
  case atStart => exact ⟨0, 0, Nat.zero_le _, rfl, rfl⟩
  case round =>
    obtain ⟨k, m, hk, rfl, rfl⟩ := hrel
    by_cases hlt : k < n
    · obtain ⟨x, hx⟩ : ∃ x, ts[k]? = some x := ⟨_, List.getElem?_eq_getElem (by rw [h.out.1]; exact hlt)⟩
      obtain ⟨g, rfl, hg, d0, d1⟩ := h.out.2 k x hx
      obtain ⟨g', rfl, hg', e0, e1⟩ := h'.out.2 k x hx
      clear hx
      have hki : (k : Int) < (n : Int) := by omega
      have hk0 : 0 ≤ (k : Int) := by omega
      have hkd : decide (k < n) = true := by simpa using hlt
      go_wp2_with fail
      go_quiet (fail)
      go_wp2_with fail
      go_roundw
      case rel => exact ⟨k + 1, _, by omega, by go_num, rfl⟩
      case measure => simp [intOf]; omega
    · have hkd : decide (k < n) = false := by simpa using hlt
      go_wp2_with fail
      go_ret
      exact ⟨rfl, drewN_below _ _⟩
section
variable {A A1 A2 : Option Addr} {n cap n1 c1 n2 c2 : Nat} {ts R : List Dp} {I1 ds ms : List Int} {G : Bool} {v : Value} {x : Dp} {a b d m s : Int} {w : World}
theorem tb_i (h0 : Hid (ansTb ts d m = v)) (hn : n ≤ 2000000) (hts : Hid (DpAt w w.heap.size A n ts)) : Calls Try.prog 16 #[.slice A n cap, .int .i64 d, .int .i64 m] w (APost v w) := by
  rw [← h0.out]; exact trueBearing_impl A n cap ts d m w hn hts
theorem mb_i (h0 : Hid (ansMb ts d m = v)) (hn : n ≤ 2000000) (hts : Hid (DpAt w w.heap.size A n ts)) : Calls Try.prog 18 #[.slice A n cap, .int .i64 d, .int .i64 m] w (APost v w) := by
  rw [← h0.out]; exact magneticBearing_impl A n cap ts d m w hn hts
theorem on_i (h0 : Hid (ansOn ts d = v)) (hn : n ≤ 2000000) (hts : Hid (DpAt w w.heap.size A n ts)) : Calls Try.prog 19 #[.slice A n cap, .int .i64 d] w (APost v w) := by
  rw [← h0.out]; exact declinationOn_impl A n cap ts d w hn hts
theorem dw_i (h0 : Hid (ansDw ts d = v)) (hn : n ≤ 2000000) (hts : Hid (DpAt w w.heap.size A n ts)) : Calls Try.prog 20 #[.slice A n cap, .int .i64 d] w (APost v w) := by
  rw [← h0.out]; exact daysWith_impl A n cap ts d w hn hts
theorem cb_i (h0 : Hid (ansCb ts d m = v)) (hn : n ≤ 2000000) (hts : Hid (DpAt w w.heap.size A n ts)) : Calls Try.prog 26 #[.slice A n cap, .int .i64 d, .int .i64 m] w (APost v w) := by
  rw [← h0.out]; exact changeBetween_impl A n cap ts d m w hn hts
theorem ar_i (h0 : Hid (goodDp ts = G)) (hn : n ≤ 2000000) (hts : Hid (DpAt w w.heap.size A n ts)) : Calls Try.prog 30 #[.slice A n cap] w (BPost G w) := by
  rw [← h0.out]; exact arePoints_any A n cap ts w hn hts
theorem ca_i (h0 : Hid (crV ts ds ms = I1)) (h1 : Hid (crGood ts ds ms = G)) (hn1 : n1 ≤ 2000000) (hn2 : n2 ≤ 2000000) (g1 : Hid (InAt w w.heap.size A1 n1 ds)) (g2 : Hid (InAt w w.heap.size A2 n2 ms)) (hn : n ≤ 2000000) (hts : Hid (DpAt w w.heap.size A n ts)) : Calls Try.prog 22 #[.slice A n cap, .slice A1 n1 c1, .slice A2 n2 c2] w (LPost I1 G w) := by
  rw [← h0.out, ← h1.out]; exact correctAll_impl A n cap ts A1 n1 c1 ds A2 n2 c2 ms w hn hn1 hn2 hts g1 g2
theorem ap_i (h0 : Hid (apV ts x = R)) (h1 : Hid (apOk ts x = G)) (hcap : CapOk A n cap) (hn : n ≤ 2000000) (hts : Hid (DpAt w w.heap.size A n ts)) : Calls Try.prog 33 #[.slice A n cap, .agg #[.int .i64 x.day, .int .i64 x.tn]] w (DPost R G w) := by
  rw [← h0.out, ← h1.out]; exact addPoint_impl A n cap ts x w hcap hn hts
theorem nd_i (h0 : Hid (ndIds ts = I1)) (h1 : Hid (goodDp ts = G)) (hcap : CapOk A n cap) (hn : n ≤ 2000000) (hts : Hid (DpAt w w.heap.size A n ts)) : Calls Try.prog 37 #[.slice A n cap] w (LPost I1 G w) := by
  rw [← h0.out, ← h1.out]; exact needless_impl A n cap ts w hcap hn hts
theorem tb_m (h0 : Hid (ansTb ts d m = v)) (hn : n ≤ 2000000) (hts : Hid (DpAt w w.heap.size A n ts)) : Calls Try.prog 17 #[.slice A n cap, .int .i64 d, .int .i64 m] w (APost v w) := by
  rw [← h0.out]; exact trueBearing_model A n cap ts d m w hn hts
theorem on_m (h0 : Hid (ansOn ts d = v)) (hn : n ≤ 2000000) (hts : Hid (DpAt w w.heap.size A n ts)) : Calls Try.prog 40 #[.slice A n cap, .int .i64 d] w (APost v w) := by
  rw [← h0.out]; exact declinationOn_model A n cap ts d w hn hts
theorem dw_m (h0 : Hid (ansDw ts d = v)) (hn : n ≤ 2000000) (hts : Hid (DpAt w w.heap.size A n ts)) : Calls Try.prog 29 #[.slice A n cap, .int .i64 d] w (APost v w) := by
  rw [← h0.out]; exact daysWith_model A n cap ts d w hn hts
theorem cb_m (h0 : Hid (ansCb ts d m = v)) (hn : n ≤ 2000000) (hts : Hid (DpAt w w.heap.size A n ts)) : Calls Try.prog 27 #[.slice A n cap, .int .i64 d, .int .i64 m] w (APost v w) := by
  rw [← h0.out]; exact changeBetween_model A n cap ts d m w hn hts
theorem ar_m (h0 : Hid (goodDp ts = G)) (hn : n ≤ 2000000) (hts : Hid (DpAt w w.heap.size A n ts)) : Calls Try.prog 31 #[.slice A n cap] w (BPost G w) := by
  rw [← h0.out]; exact arePoints_model A n cap ts w hn hts
theorem ca_m (h0 : Hid (crV ts ds ms = I1)) (h1 : Hid (crGood ts ds ms = G)) (hn1 : n1 ≤ 2000000) (hn2 : n2 ≤ 2000000) (g1 : Hid (InAt w w.heap.size A1 n1 ds)) (g2 : Hid (InAt w w.heap.size A2 n2 ms)) (hn : n ≤ 2000000) (hts : Hid (DpAt w w.heap.size A n ts)) : Calls Try.prog 23 #[.slice A n cap, .slice A1 n1 c1, .slice A2 n2 c2] w (LPost I1 G w) := by
  rw [← h0.out, ← h1.out]; exact correctAll_model A n cap ts A1 n1 c1 ds A2 n2 c2 ms w hn hn1 hn2 hts g1 g2
theorem ap_m (h0 : Hid (apV ts x = R)) (h1 : Hid (apOk ts x = G)) (hcap : CapOk A n cap) (hn : n ≤ 2000000) (hts : Hid (DpAt w w.heap.size A n ts)) : Calls Try.prog 34 #[.slice A n cap, .agg #[.int .i64 x.day, .int .i64 x.tn]] w (DPost R G w) := by
  rw [← h0.out, ← h1.out]; exact addPoint_model A n cap ts x w hcap hn hts
theorem nd_m (h0 : Hid (ndIds ts = I1)) (h1 : Hid (goodDp ts = G)) (hcap : CapOk A n cap) (hn : n ≤ 2000000) (hts : Hid (DpAt w w.heap.size A n ts)) : Calls Try.prog 38 #[.slice A n cap] w (LPost I1 G w) := by
  rw [← h0.out, ← h1.out]; exact needless_model A n cap ts w hcap hn hts
end
theorem tb_form (ts : List Dp) (d m : Int) : ∃ (b : Int) (ok : Bool), ansTb ts d m = .tuple #[.int .i64 b, .bool ok] ∧ (ok = true → goodDp ts = true ∧ dayOk d = true ∧ fineOk m = true ∧ b = tru ts d m) := by
  unfold ansTb
  split
  · rename_i h
    rw [Bool.and_eq_true, Bool.and_eq_true] at h
    exact ⟨_, _, rfl, fun _ => ⟨h.1.1, h.1.2, h.2, rfl⟩⟩
  · exact ⟨_, _, rfl, fun h => by cases h⟩
/-- what the law asks of a bearing that is corrected -/
theorem tb_yes {ts : List Dp} {d m b : Int} (hg : goodDp ts = true) (hd : dayOk d = true) (hm : fineOk m = true) (hb : b = tru ts d m) : ∃ (q f l : Int), ansMb ts d b = .tuple #[.int .i64 m, .bool true] ∧ ansOn ts d = .tuple #[.int .i64 q, .bool true] ∧ ansDw ts q = .tuple #[.int .i64 f, .int .i64 l, .bool true] ∧ f ≤ d ∧ d ≤ l := by
  have hbd := dec_bd (good_lim hg).2.2 (good_lim hg).1
  have l1 := btw_yes (show btw 0 m 3599 = true from hm)
  have l2 := btw_yes (show btw 0 d 999 = true from hd)
  have lt := tru_lim ts d m
  have hf : fineOk b = true := by rw [hb]; exact btw_mk lt.1 lt.2
  obtain ⟨h0, h1, h2⟩ := fsD_hit (ts := ts) (t := dec ts d) (k := 1000) (j := d.toNat) (by omega) (by rw [show ((d.toNat : Nat) : Int) = d by omega])
  have e : ((d.toNat : Nat) : Int) = d := by omega
  rw [e] at h1 h2
  refine ⟨dec ts d, fsD ts (dec ts d) 1000, lsD ts (dec ts d) 1000, ?_, ?_, ?_, h1, h2⟩
  · unfold ansMb; rw [hg, hd, hf, hb, tru_back (hbd d) l1]; rfl
  · unfold ansOn; rw [hg, hd]; rfl
  · unfold ansDw dwOk
    rw [hg, btw_mk (hbd d).1 (hbd d).2, decide_eq_true h0]; rfl
theorem cb_form (ts : List Dp) (a b : Int) : ∃ (c : Int) (ok : Bool), ansCb ts a b = .tuple #[.int .i64 c, .bool ok] ∧ (ok = true → ∃ p q : Int, ansCb ts a 0 = .tuple #[.int .i64 p, .bool true] ∧ ansCb ts 0 b = .tuple #[.int .i64 q, .bool true] ∧ p + q = c ∧ (-1800 ≤ p ∧ p ≤ 1800) ∧ (-1800 ≤ q ∧ q ≤ 1800)) := by
  cases h : (goodDp ts && dayOk a && dayOk b)
  · exact ⟨0, false, by unfold ansCb; rw [h]; rfl, fun h => by cases h⟩
  · refine ⟨dec ts b - dec ts a, true, by unfold ansCb; rw [h]; rfl, fun _ => ?_⟩
    rw [Bool.and_eq_true, Bool.and_eq_true] at h
    have hbd := dec_bd (good_lim h.1.1).2.2 (good_lim h.1.1).1
    have h0 := hbd 0
    have ha := hbd a
    have hb := hbd b
    refine ⟨dec ts 0 - dec ts a, dec ts b - dec ts 0, ?_, ?_, by omega, by omega, by omega⟩
    · unfold ansCb; rw [h.1.1, h.1.2, show dayOk 0 = true from rfl]; rfl
    · unfold ansCb; rw [h.1.1, h.2, show dayOk 0 = true from rfl]; rfl
theorem dw_form (ts : List Dp) (s : Int) : ∃ (f l : Int) (ok : Bool), ansDw ts s = .tuple #[.int .i64 f, .int .i64 l, .bool ok] := by unfold ansDw; split <;> exact ⟨_, _, _, rfl⟩
theorem on_form (ts : List Dp) (d : Int) : ∃ (q : Int) (ok : Bool), ansOn ts d = .tuple #[.int .i64 q, .bool ok] := by unfold ansOn; split <;> exact ⟨_, _, rfl⟩
/-- what the law asks of a point that is added -/
theorem ap_yes {ts R : List Dp} {p : Dp} {ok : Bool} (hR : apV ts p = R) (hok : apOk ts p = ok) (h : ok = true) : ansOn R p.day = .tuple #[.int .i64 p.tn, .bool true] ∧ goodDp R = true := by
  subst h
  have e : R = addDp ts p := by rw [← hR]; unfold apV; rw [hok]; rfl
  have hg : goodDp (addDp ts p) = true := by unfold apOk at hok; rw [Bool.and_eq_true] at hok; exact hok.2
  have lp := okDp_lim (addDp_ok hg)
  rw [e]
  refine ⟨?_, hg⟩
  unfold ansOn
  rw [hg, show dayOk p.day = true from btw_mk lp.1 lp.2.1, addDp_dec hg]; rfl
/-- what the law asks of a needless point -/
theorem nd_yes {ts : List Dp} {I1 : List Int} {j : Nat} {x : Int} (hI : ndIds ts = I1) (h : I1[j]? = some x) : ∃ k : Nat, x = (k : Int) ∧ k < ts.length ∧ 1 < ts.length ∧ goodDp ts = true ∧ goodDp (lessDp ts k) = true ∧ ∀ d : Nat, d < 1000 → ∃ q : Int, ansOn ts (d : Int) = .tuple #[.int .i64 q, .bool true] ∧ ansOn (lessDp ts k) (d : Int) = .tuple #[.int .i64 q, .bool true] := by
  subst hI
  unfold ndIds at h
  cases hg : goodDp ts
  · rw [hg] at h; simp at h
  · rw [hg] at h
    obtain ⟨k, e, hk, hn⟩ := ndK_mem ts ts.length x (List.mem_of_getElem? (by simpa using h))
    unfold needless at hn
    rw [Bool.and_eq_true] at hn
    have h1 : 1 < ts.length := by simpa using hn.1
    have hg2 := lessDp_good hg hk h1
    refine ⟨k, e, hk, h1, rfl, hg2, fun d hd => ⟨dec ts (d : Int), ?_, ?_⟩⟩
    · unfold ansOn; rw [hg, show dayOk (d : Int) = true from btw_mk (by omega) (by omega)]; rfl
    · unfold ansOn; rw [hg2, show dayOk (d : Int) = true from btw_mk (by omega) (by omega), ← sameN_yes hn.2 hd]; rfl
end Go.Proofs.Ytiimegmaokfpgaa.dpw
