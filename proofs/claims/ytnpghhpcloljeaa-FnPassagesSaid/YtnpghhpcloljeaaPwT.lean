/-
  The contracts of passages in letters; what FnPassages asks of the answers.
  Conditions: none but those that a theorem names.
-/
import Derived.Test.YtnpghhpcloljeaaCurs
import Derived.Test.YtnpghhpcloljeaaCurD
import Derived.Test.YtnpghhpcloljeaaPwC
import Derived.Test.YtnpghhpcloljeaaPwK
import Derived.Test.YtnpghhpcloljeaaPwM
import Derived.Test.YtnpghhpcloljeaaPwJ
import Derived.Test.YtnpghhpcloljeaaPwQ
import Derived.Test.YtnpghhpcloljeaaPwS
import Derived.Test.YtnpghhpcloljeaaPwN
import Derived.Test.YtnpghhpcloljeaaVs
import Derived.Test.YtnpghhpcloljeaaVsH
import Derived.Test.YtnpghhpcloljeaaEnd
import Derived.Deep.DeepCutAuto
namespace Go.Proofs.Ytnpghhpcloljeaa.ppw
open Go.RowKit
open reads base curs curd ty rowi lg lgw pw hs
set_option linter.unusedVariables false
set_option linter.unusedSimpArgs false

def LawPost (w : World) (e : Ending) (w' : World) : Prop := e = .returned (.bool true) ∧ Below w.heap.size w w'
/-- where the law stands: nothing old has turned, the code reads -/
def St (w : World) (A : Option Addr) (n : Nat) (zs : List UInt8) (v : World) : Prop := Below w.heap.size w v ∧ curs.Code v A n zs
theorem St.step {w v v' : World} {A : Option Addr} {n : Nat} {zs : List UInt8} (h : St w A n zs v) (hb : Below v.heap.size v v') : St w A n zs v' := ⟨h.1.trans (hb.mono h.1.size), h.2.below hb⟩
theorem St.alloc {w v : World} {A : Option Addr} {n : Nat} {zs : List UInt8} (h : St w A n zs v) (o : Obj) : St w A n zs (v.alloc o) := h.step ((Below.refl _ _).alloc (Nat.le_refl _) o)
theorem St.drew {w v : World} {A : Option Addr} {n : Nat} {zs : List UInt8} (h : St w A n zs v) : St w A n zs v.drew := h.step (drewN_below _ 1)
theorem vints_b {A A' : Option Addr} {n c c' : Nat} {xs : List Int} {w : World} (hn : n ≤ 2000000) (h : Hid (ints.IL w A n xs)) (h' : Hid (ints.IL w A' n xs)) :
    Calls Try.prog 46 #[.slice A n c, .slice A' n c'] w (BPost true w) :=
  (vs.vints_any A A' n c c' xs w hn h h').mono (by rintro e w' ⟨rfl, m, rfl⟩; exact ⟨rfl, drewN_below _ m⟩)
theorem vwithin_b {A A' : Option Addr} {n m c c' : Nat} {xs ys : List Int} {w : World} (hn : n ≤ 2000000) (hm : m ≤ 2000000) (h : Hid (ints.IL w A n xs)) (h' : Hid (ints.IL w A' m ys)) (hs : Hid (∀ x ∈ xs, mem ys x = true)) :
    Calls Try.prog 47 #[.slice A n c, .slice A' m c'] w (BPost true w) :=
  (vsh.within_yes A A' n c m c' xs ys w hn hm h h' hs).mono (by rintro e w' ⟨rfl, rfl⟩; exact ⟨rfl, Below.refl _ _⟩)
set_option maxHeartbeats 4000000 in
set_option maxRecDepth 100000 in
theorem vpgs_any (A A' : Option Addr) (n c c' : Nat) (ts : List Pg) (w : World) (hn : n ≤ 2000000) (h : Hid (PgAt w w.heap.size A n ts)) (h' : Hid (PgAt w w.heap.size A' n ts)) :
    Calls Try.prog 44 #[.slice A n c, .slice A' n c'] w (BPost true w) := by
  go_enter Try.func44, Try.ntmps44
  go_wp2_with fail
  go_loopw [5] (fun i wr => ∃ k m : Nat, k ≤ n ∧ i = .int .i64 k ∧ wr = w.drewN m) (fun i _ => n - (intOf i).toNat)
  case atStart => exact ⟨0, 0, Nat.zero_le _, rfl, rfl⟩
  case round =>
    obtain ⟨k, m, hk, rfl, rfl⟩ := hrel
    by_cases hlt : k < n
    · obtain ⟨x, hx⟩ : ∃ x, ts[k]? = some x := ⟨_, List.getElem?_eq_getElem (by rw [h.out.1]; exact hlt)⟩
      obtain ⟨g, rfl, hg, d0, d1, d2, d3, d4⟩ := h.out.2 k x hx
      obtain ⟨g', rfl, hg', e0, e1, e2, e3, e4⟩ := h'.out.2 k x hx
      clear hx
      have hki : (k : Int) < (n : Int) := by omega
      have hk0 : 0 ≤ (k : Int) := by omega
      have hkd : decide (k < n) = true := by simpa using hlt
      go_wp2_with fail
      go_quiet (fail)
      go_wp2_with fail
      go_roundw
      case rel => exact ⟨k + 1, _, by omega, by go_num, rfl⟩
      case measure => simp [intOf]; omega
    · have hkd : decide (k < n) = false := by simpa using hlt
      go_wp2_with fail
      go_ret
      exact ⟨rfl, drewN_below _ _⟩
section
variable {A A1 : Option Addr} {n cap n1 c1 : Nat} {ts rs us : List Pg} {ls : List Lg} {xs : List Int} {G : Bool} {v : Value} {a h : Int} {w : World}
theorem vo_i (h0 : Hid (ansVo ts ls = v)) (hn : n ≤ 2000000) (hts : Hid (PgAt w w.heap.size A n ts)) (hn1 : n1 ≤ 2000000) (hls : Hid (LgO w w.heap.size A1 n1 ls)) : Calls Try.prog 22 #[.slice A n cap, .slice A1 n1 c1] w (APost v w) := by
  rw [← h0.out]; exact volumeOf_impl A n cap ts A1 n1 c1 ls w hn hts hn1 hls
theorem ar_i (h0 : Hid (goodPg ts = G)) (hn : n ≤ 2000000) (hts : Hid (PgAt w w.heap.size A n ts)) : Calls Try.prog 15 #[.slice A n cap] w (BPost G w) := by
  rw [← h0.out]; exact arePassages_any A n cap ts w hn hts
theorem mg_i (h0 : Hid (mgV ts rs = us)) (h1 : Hid (mgOk ts rs = G)) (hn : n ≤ 2000000) (hts : Hid (PgAt w w.heap.size A n ts)) (hn1 : n1 ≤ 2000000) (hrs : Hid (PgAt w w.heap.size A1 n1 rs)) : Calls Try.prog 33 #[.slice A n cap, .slice A1 n1 c1] w (GPost us G w) := by
  rw [← h0.out, ← h1.out]; exact merge_impl A n cap ts A1 n1 c1 rs w hn hts hn1 hrs
theorem ft_i (h0 : Hid (ftV a h ts = xs)) (h1 : Hid (ftOk a h ts = G)) (hn : n ≤ 2000000) (hts : Hid (PgAt w w.heap.size A n ts)) : Calls Try.prog 27 #[.slice A n cap, .int .i64 a, .int .i64 h] w (LPost xs G w) := by
  rw [← h0.out, ← h1.out]; exact fitting_impl A n cap ts a h w hn hts
theorem ma_i (h0 : Hid (ansMa ts = v)) (hn : n ≤ 2000000) (hts : Hid (PgAt w w.heap.size A n ts)) : Calls Try.prog 40 #[.slice A n cap] w (APost v w) := by
  rw [← h0.out]; exact meanArea_impl A n cap ts w hn hts
theorem wp_i (h0 : Hid (ansWp ts = v)) (hn : n ≤ 2000000) (hts : Hid (PgAt w w.heap.size A n ts)) : Calls Try.prog 25 #[.slice A n cap] w (APost v w) := by
  rw [← h0.out]; exact widest_impl A n cap ts w hn hts
theorem aa_i (h0 : Hid (ansAa ts a = v)) (hn : n ≤ 2000000) (hts : Hid (PgAt w w.heap.size A n ts)) : Calls Try.prog 18 #[.slice A n cap, .int .i64 a] w (APost v w) := by
  rw [← h0.out]; exact areaAt_impl A n cap ts a w hn hts
theorem vo_m (h0 : Hid (ansVo ts ls = v)) (hn : n ≤ 2000000) (hts : Hid (PgAt w w.heap.size A n ts)) (hn1 : n1 ≤ 2000000) (hls : Hid (LgAt w w.heap.size A1 n1 ls)) : Calls Try.prog 20 #[.slice A n cap, .slice A1 n1 c1] w (APost v w) := by
  rw [← h0.out]; exact volumeOf_model A n cap ts A1 n1 c1 ls w hn hts hn1 hls
theorem ar_m (h0 : Hid (goodPg ts = G)) (hn : n ≤ 2000000) (hts : Hid (PgAt w w.heap.size A n ts)) : Calls Try.prog 13 #[.slice A n cap] w (BPost G w) := by
  rw [← h0.out]; exact arePassages_model A n cap ts w hn hts
theorem mg_m (h0 : Hid (mgV ts rs = us)) (h1 : Hid (mgOk ts rs = G)) (hn : n ≤ 2000000) (hts : Hid (PgAt w w.heap.size A n ts)) (hn1 : n1 ≤ 2000000) (hrs : Hid (PgAt w w.heap.size A1 n1 rs)) : Calls Try.prog 32 #[.slice A n cap, .slice A1 n1 c1] w (GPost us G w) := by
  rw [← h0.out, ← h1.out]; exact merge_model A n cap ts A1 n1 c1 rs w hn hts hn1 hrs
theorem ft_m (h0 : Hid (ftV a h ts = xs)) (h1 : Hid (ftOk a h ts = G)) (hn : n ≤ 2000000) (hts : Hid (PgAt w w.heap.size A n ts)) : Calls Try.prog 26 #[.slice A n cap, .int .i64 a, .int .i64 h] w (LPost xs G w) := by
  rw [← h0.out, ← h1.out]; exact fitting_model A n cap ts a h w hn hts
theorem ma_m (h0 : Hid (ansMa ts = v)) (hn : n ≤ 2000000) (hts : Hid (PgAt w w.heap.size A n ts)) : Calls Try.prog 39 #[.slice A n cap] w (APost v w) := by
  rw [← h0.out]; exact meanArea_model A n cap ts w hn hts
end
theorem goodLg_part {ls ps : List Lg} (h : goodLg ls = true) (hs : ∀ x ∈ ps, x ∈ ls) (hl : ps.length ≤ ls.length) : goodLg ps = true := by
  unfold goodLg
  rw [Bool.and_eq_true]
  refine ⟨List.all_eq_true.2 (fun x hx => goodLg_all h x (hs x hx)), ?_⟩
  have := goodLg_len h
  simp; omega
theorem vol_lim {ts : List Pg} {ls : List Lg} (hg : goodPg ts = true) (hl : goodLg ls = true) : 0 ≤ vol ts ls ∧ vol ts ls ≤ 1920000000 := by
  have k := volK_lim hg hl ls.length (Nat.le_refl _)
  have := goodLg_len hl
  unfold vol
  omega
theorem red2_lim {V : Int} (h0 : 0 ≤ V) (h1 : V ≤ 1920000000) : (0 ≤ redN V 2 ∧ redN V 2 ≤ 1920000000) ∧ 1 ≤ redD V 2 ∧ redD V 2 ≤ 2 := by
  obtain ⟨r1, r2⟩ := red_mul V 2
  have h2 : Nat.gcd V.natAbs (2 : Int).natAbs ≤ 2 := Nat.gcd_le_right _ (by decide)
  have h3 : 0 < Nat.gcd V.natAbs (2 : Int).natAbs := Nat.gcd_pos_of_pos_right _ (by decide)
  generalize Nat.gcd V.natAbs (2 : Int).natAbs = g at *
  have hg : g = 1 ∨ g = 2 := by omega
  rcases hg with rfl | rfl <;> omega
theorem vo_form (ts : List Pg) (ls : List Lg) : ∃ (a b : Int) (ok : Bool), ansVo ts ls = .tuple #[.int .i64 a, .int .i64 b, .bool ok] ∧ (ok = true → goodPg ts = true ∧ goodLg ls = true ∧ a = redN (vol ts ls) 2 ∧ b = redD (vol ts ls) 2) := by
  unfold ansVo
  split
  · rename_i h
    rw [Bool.and_eq_true] at h
    exact ⟨_, _, _, rfl, fun _ => ⟨h.1, h.2, rfl, rfl⟩⟩
  · exact ⟨_, _, _, rfl, fun h => by cases h⟩
/-- what the law asks of the volumes of two parts -/
theorem vo_yes {ts : List Pg} {ls : List Lg} {a b : Int} (k : Nat) (hg : goodPg ts = true) (hl : goodLg ls = true) (ha : a = redN (vol ts ls) 2) (hb : b = redD (vol ts ls) 2) :
    ∃ p q r s : Int, ansVo ts (ls.take k) = .tuple #[.int .i64 p, .int .i64 q, .bool true] ∧ ansVo ts (ls.drop k) = .tuple #[.int .i64 r, .int .i64 s, .bool true] ∧ (p * s + r * q) * b = a * q * s ∧
      ((0 ≤ p * s ∧ p * s ≤ 3840000000) ∧ (0 ≤ r * q ∧ r * q ≤ 3840000000) ∧ (0 ≤ a * q ∧ a * q ≤ 3840000000) ∧ (0 ≤ a * q * s ∧ a * q * s ≤ 7680000000)) := by
  have h1 : goodLg (ls.take k) = true := goodLg_part hl (fun x hx => List.mem_of_mem_take hx) (by rw [List.length_take]; omega)
  have h2 : goodLg (ls.drop k) = true := goodLg_part hl (fun x hx => List.mem_of_mem_drop hx) (by rw [List.length_drop]; omega)
  have l0 := vol_lim hg hl
  have l1 := vol_lim hg h1
  have l2 := vol_lim hg h2
  have r0 := red2_lim l0.1 l0.2
  have r1 := red2_lim l1.1 l1.2
  have r2 := red2_lim l2.1 l2.2
  have e := vol_parts (ts := ts) (az := ls.take k) (bs := ls.drop k)
  rw [List.take_append_drop] at e
  refine ⟨redN (vol ts (ls.take k)) 2, redD (vol ts (ls.take k)) 2, redN (vol ts (ls.drop k)) 2, redD (vol ts (ls.drop k)) 2, by unfold ansVo; rw [hg, h1]; rfl, by unfold ansVo; rw [hg, h2]; rfl, ?_, ?_⟩
  · rw [ha, hb]; exact e
  · rw [ha]
    have m1 := mul_lim (a := redN (vol ts (ls.take k)) 2) (b := redD (vol ts (ls.drop k)) 2) (m := 1920000000) (k := 2) (by omega) (by omega) (by omega) (by omega)
    have m2 := mul_lim (a := redN (vol ts (ls.drop k)) 2) (b := redD (vol ts (ls.take k)) 2) (m := 1920000000) (k := 2) (by omega) (by omega) (by omega) (by omega)
    have m3 := mul_lim (a := redN (vol ts ls) 2) (b := redD (vol ts (ls.take k)) 2) (m := 1920000000) (k := 2) (by omega) (by omega) (by omega) (by omega)
    have m4 := mul_lim (a := redN (vol ts ls) 2 * redD (vol ts (ls.take k)) 2) (b := redD (vol ts (ls.drop k)) 2) (m := 3840000000) (k := 2) (by omega) (by omega) (by omega) (by omega)
    omega
theorem ma_form (ts : List Pg) : ∃ (a b : Int) (ok : Bool), ansMa ts = .tuple #[.int .i64 a, .int .i64 b, .bool ok] ∧ (ok = true → wsOk ts = true ∧ a = redN (sumA ts) ts.length ∧ b = redD (sumA ts) ts.length) := by
  unfold ansMa
  split
  · rename_i h
    exact ⟨_, _, _, rfl, fun _ => ⟨h, rfl, rfl⟩⟩
  · exact ⟨_, _, _, rfl, fun h => by cases h⟩
/-- what the law asks of the widest passage -/
theorem ma_yes {ts : List Pg} {a b : Int} (h : wsOk ts = true) (ha : a = redN (sumA ts) ts.length) (hb : b = redD (sumA ts) ts.length) :
    ∃ s v : Int, ansWp ts = .tuple #[.int .i64 s, .bool true] ∧ ansAa ts s = .tuple #[.int .i64 v, .bool true] ∧ a ≤ v * b ∧ 0 ≤ v * b ∧ v * b ≤ 1280000 := by
  obtain ⟨h1, h2⟩ := widest_mean h
  have k := h
  unfold wsOk at k
  rw [Bool.and_eq_true] at k
  have hl := good_len k.1
  have hl0 : 0 < ts.length := by have := k.2; simp at this; exact List.length_pos_iff.2 this
  have va := arAt_lim k.1 (wsK ts)
  have hd : 1 ≤ redD (sumA ts) ts.length ∧ redD (sumA ts) ts.length ≤ 8 := by
    obtain ⟨r1, r2⟩ := red_mul (sumA ts) ts.length
    have h3 : 0 < Nat.gcd (sumA ts).natAbs ((ts.length : Nat) : Int).natAbs := Nat.gcd_pos_of_pos_right _ (by omega)
    generalize Nat.gcd (sumA ts).natAbs ((ts.length : Nat) : Int).natAbs = g at *
    generalize redD (sumA ts) ts.length = d at *
    have hg : (1 : Int) ≤ (g : Int) := by omega
    have hd0 : 0 < d := by
      rcases Int.lt_or_le 0 d with q | q
      · exact q
      · have := Int.mul_le_mul_of_nonneg_right q (show (0 : Int) ≤ (g : Int) by omega); omega
    have : d * 1 ≤ d * (g : Int) := Int.mul_le_mul_of_nonneg_left hg (by omega)
    omega
  have m := mul_lim (a := arAt ts (wsK ts)) (b := redD (sumA ts) ts.length) (m := 160000) (k := 8) (by omega) (by omega) (by omega) (by omega)
  refine ⟨wsK ts, arAt ts (wsK ts), by unfold ansWp; rw [h]; rfl, by unfold ansAa; rw [k.1, h1]; rfl, by rw [ha, hb]; exact h2, by rw [hb]; exact m.1, by rw [hb]; exact m.2⟩
/-- what the law asks of fitting stations -/
theorem ft_yes {ts : List Pg} {a h : Int} (hk : ftOk a h ts = true) : ftOk (a + 1) h ts = true ∧ ∀ x ∈ ftV (a + 1) h ts, mem (ftV a h ts) x = true := by
  have k := hk
  unfold ftOk at k
  rw [Bool.and_eq_true, Bool.and_eq_true] at k
  have hk2 : ftOk (a + 1) h ts = true := by
    unfold ftOk
    have e : decide (a + 1 < 1) = false := by have := k.1.2; simp at this ⊢; omega
    rw [k.1.1, k.2, e]; rfl
  refine ⟨hk2, fun x hx => ?_⟩
  unfold ftV at hx ⊢
  rw [if_pos hk2] at hx
  rw [if_pos hk]
  have := fitK_more a h ts ts.length x hx
  unfold mem; simpa using this
end Go.Proofs.Ytnpghhpcloljeaa.ppw
