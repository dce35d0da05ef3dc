/-
  The drawn angles, bearings and lengths.
  Conditions: the code has at most 65536 bytes.
-/
import Derived.Test.YtekbiapgbhaibabDoorCurs
namespace Go.Proofs.YtekbiapgbhaibabDoor.angd
open Go.RowKit
open reads curs
set_option linter.unusedVariables false

theorem cur_more {w : World} {B b k : Nat} {A : Option Addr} {n cap : Nat} {zs : List UInt8} (h : Cur w B b k A n cap zs) (m : Nat) (hm : k ≤ m) : Cur w B b m A n cap zs := by
  obtain ⟨c1, c2, c3, pos, sd, c4, c5⟩ := h
  exact ⟨c1, c2, c3, pos, sd, by omega, c5⟩
/-- one among some numbers that are made on the spot -/
theorem among_new (B b k : Nat) (A : Option Addr) (n cap : Nat) (zs : List UInt8) (w : World) (m cp : Nat) (xs : List Int) (hk : k ≤ 80000) (h : Cur w B b k A n cap zs) (hm : xs.length = m) (h0 : 0 < m) (h1 : m ≤ 200) :
    Calls Tryd.prog 45 #[.pointer (some ⟨b, 0, none⟩), .slice (some ⟨w.heap.size, 0, none⟩) m cp] (w.alloc (.cells (intsV xs).toArray 3)) (curs.APost B b (k + 1) A n cap zs xs w) := by
  have hlt := cur_lt h
  have hB : B ≤ w.heap.size := by have := h.1; omega
  refine (among_any B b k A n cap zs _ w.heap.size m cp xs hk (cur_alloc h hB _) (Blk.new w _ _) (by omega) hm h0 h1).mono ?_
  rintro e w1 ⟨x, hx, he, hC, hg⟩
  exact ⟨x, hx, he, hC, (World.grownBy_alloc w _ (some b)).trans hg⟩

theorem among_at (B b k : Nat) (A : Option Addr) (n cap : Nat) (zs : List UInt8) (w : World) (g : Nat) (hg : w.heap.size = g) (m cp : Nat) (xs : List Int) (hk : k ≤ 80000) (h : Cur w B b k A n cap zs) (hm : xs.length = m) (h0 : 0 < m) (h1 : m ≤ 200) :
    Calls Tryd.prog 45 #[.pointer (some ⟨b, 0, none⟩), .slice (some ⟨g, 0, none⟩) m cp] (w.alloc (.cells (intsV xs).toArray 3)) (curs.APost B b (k + 1) A n cap zs xs w) := by
  subst hg
  exact among_new B b k A n cap zs w m cp xs hk h hm h0 h1

/-- a number that is drawn within two others -/
def DPost (B b k : Nat) (A : Option Addr) (n cap : Nat) (zs : List UInt8) (lo hi : Int) (w : World) (e : Ending) (w' : World) : Prop :=
  ∃ x : Int, e = .returned (.int .i64 x) ∧ lo ≤ x ∧ x ≤ hi ∧ Cur w' B b k A n cap zs ∧ w.grownBy w' (some b)

theorem degrees_any (B b k : Nat) (A : Option Addr) (n cap : Nat) (zs : List UInt8) (w : World) (hk : k ≤ 70000) (h : Cur w B b k A n cap zs) :
    Calls Tryd.prog 38 #[.pointer (some ⟨b, 0, none⟩)] w (DPost B b (k + 3) A n cap zs (-3601) 3601 w) := by
  have H := Lib.hid h
  clear h
  go_enter Tryd.func38, Tryd.ntmps38
  go_wp2_with fail
  refine (pick_any B b k A n cap zs _ 16 (by omega) H.out (by decide) (by decide)).mono ?_
  rintro e w1 ⟨r, rfl, hr, hC, hg⟩
  have HC := Lib.hid hC
  have HG := Lib.hid hg
  clear hC hg H
  by_cases r0 : r = 0
  · subst r0
    go_wp2_with fail
    refine (among_new B b (k + 1) A n cap zs w1 4 _ [-3601, -3600, 3600, 3601] (by omega) HC.out rfl (by decide) (by decide)).mono ?_
    rintro e w2 ⟨x, hx, rfl, hC, hg⟩
    have hx1 : -3601 ≤ x ∧ x ≤ 3601 := by simp at hx; omega
    have HC2 := Lib.hid (cur_more hC (k + 3) (by omega))
    have HG2 := Lib.hid (HG.out.trans hg)
    have HX := Lib.hid hx1
    clear hC hg hx hx1
    go_wp2_with fail
    go_ret
    exact ⟨x, rfl, HX.out.1, HX.out.2, HC2.out, HG2.out⟩
  · by_cases r1 : r = 1
    · subst r1
      go_wp2_with fail
      refine (among_new B b (k + 1) A n cap zs w1 10 _ [0, 90, 180, 270, 360, -90, -180, -270, 45, 450] (by omega) HC.out rfl (by decide) (by decide)).mono ?_
      rintro e w2 ⟨x, hx, rfl, hC, hg⟩
      have hx1 : -3601 ≤ x ∧ x ≤ 3601 := by simp at hx; omega
      have HC2 := Lib.hid (cur_more hC (k + 3) (by omega))
      have HG2 := Lib.hid (HG.out.trans hg)
      have HX := Lib.hid hx1
      clear hC hg hx hx1
      go_wp2_with fail
      go_ret
      exact ⟨x, rfl, HX.out.1, HX.out.2, HC2.out, HG2.out⟩
    · have z0 : ((r : Int) == 0) = false := by simp; omega
      have z1 : ((r : Int) == 1) = false := by simp; omega
      go_wp2_with fail
      refine (pick_big B b (k + 1) A n cap zs _ 720 (by omega) HC.out (by decide) (by decide)).mono ?_
      rintro e w2 ⟨x, rfl, hx, hC, hg⟩
      have hx9 : x ≤ 719 := hx
      have HC2 := Lib.hid (cur_more hC (k + 3) (by omega))
      have HG2 := Lib.hid (HG.out.trans hg)
      clear hC hg hx
      go_wp2_with fail
      go_ret
      exact ⟨(x : Int) - 360, rfl, by omega, by omega, HC2.out, HG2.out⟩

theorem bearing_any (B b k : Nat) (A : Option Addr) (n cap : Nat) (zs : List UInt8) (w : World) (hk : k ≤ 70000) (h : Cur w B b k A n cap zs) :
    Calls Tryd.prog 54 #[.pointer (some ⟨b, 0, none⟩)] w (DPost B b (k + 3) A n cap zs (-1) 360 w) := by
  have H := Lib.hid h
  clear h
  go_enter Tryd.func54, Tryd.ntmps54
  go_wp2_with fail
  refine (one_any B b k A n cap zs _ 20 (by omega) H.out (by decide) (by decide)).mono ?_
  rintro e w1 ⟨t, rfl, hC, hg⟩
  have HC := Lib.hid hC
  have HG := Lib.hid hg
  clear hC hg H
  cases t
  · go_wp2_with fail
    refine (pick_big B b (k + 1) A n cap zs _ 360 (by omega) HC.out (by decide) (by decide)).mono ?_
    rintro e w2 ⟨x, rfl, hx, hC, hg⟩
    have hx9 : x ≤ 359 := hx
    have HC2 := Lib.hid (cur_more hC (k + 3) (by omega))
    have HG2 := Lib.hid (HG.out.trans hg)
    clear hC hg hx
    go_wp2_with fail
    go_ret
    exact ⟨(x : Int), rfl, by omega, by omega, HC2.out, HG2.out⟩
  · go_wp2_with fail
    refine (among_new B b (k + 1) A n cap zs w1 3 _ [-1, 359, 360] (by omega) HC.out rfl (by decide) (by decide)).mono ?_
    rintro e w2 ⟨x, hx, rfl, hC, hg⟩
    have hx1 : -1 ≤ x ∧ x ≤ 360 := by simp at hx; omega
    have HC2 := Lib.hid (cur_more hC (k + 3) (by omega))
    have HG2 := Lib.hid (HG.out.trans hg)
    have HX := Lib.hid hx1
    clear hC hg hx hx1
    go_wp2_with fail
    go_ret
    exact ⟨x, rfl, HX.out.1, HX.out.2, HC2.out, HG2.out⟩

theorem long_any (B b k : Nat) (A : Option Addr) (n cap : Nat) (zs : List UInt8) (w : World) (hk : k ≤ 70000) (h : Cur w B b k A n cap zs) :
    Calls Tryd.prog 51 #[.pointer (some ⟨b, 0, none⟩)] w (DPost B b (k + 3) A n cap zs (-100001) 100001 w) := by
  have H := Lib.hid h
  clear h
  go_enter Tryd.func51, Tryd.ntmps51
  go_wp2_with fail
  refine (one_any B b k A n cap zs _ 24 (by omega) H.out (by decide) (by decide)).mono ?_
  rintro e w1 ⟨t, rfl, hC, hg⟩
  have HC := Lib.hid hC
  have HG := Lib.hid hg
  clear hC hg H
  cases t
  · go_wp2_with fail
    refine (among_new B b (k + 1) A n cap zs w1 10 _ [0, 0, 1, -1, 10, -25, 123, 500, -1000, 7777] (by omega) HC.out rfl (by decide) (by decide)).mono ?_
    rintro e w2 ⟨x, hx, rfl, hC, hg⟩
    have hx1 : -100001 ≤ x ∧ x ≤ 100001 := by simp at hx; omega
    have HC2 := Lib.hid (cur_more hC (k + 3) (by omega))
    have HG2 := Lib.hid (HG.out.trans hg)
    have HX := Lib.hid hx1
    clear hC hg hx hx1
    go_wp2_with fail
    go_ret
    exact ⟨x, rfl, HX.out.1, HX.out.2, HC2.out, HG2.out⟩
  · go_wp2_with fail
    refine (among_new B b (k + 1) A n cap zs w1 4 _ [-100001, -100000, 100000, 100001] (by omega) HC.out rfl (by decide) (by decide)).mono ?_
    rintro e w2 ⟨x, hx, rfl, hC, hg⟩
    have hx1 : -100001 ≤ x ∧ x ≤ 100001 := by simp at hx; omega
    have HC2 := Lib.hid (cur_more hC (k + 3) (by omega))
    have HG2 := Lib.hid (HG.out.trans hg)
    have HX := Lib.hid hx1
    clear hC hg hx hx1
    go_wp2_with fail
    go_ret
    exact ⟨x, rfl, HX.out.1, HX.out.2, HC2.out, HG2.out⟩

/-- a drawn number, behind its function -/
def OPost (lo hi : Int) (w : World) (e : Ending) (w' : World) : Prop := ∃ x : Int, e = .returned (.int .i64 x) ∧ lo ≤ x ∧ x ≤ hi ∧ Below w.heap.size w w'
/-- what the draws leave alone -/
theorem low {w w1 : World} {o : Obj} (hg : (w.alloc o).grownBy w1 (some w.heap.size)) : Below w.heap.size w w1 :=
  ((Below.refl _ w).alloc (Nat.le_refl _) o).grown hg (by simp) (fun k hk => by injection hk with hk; omega)

theorem sine_draw (A : Option Addr) (n cap : Nat) (zs : List UInt8) (w : World) (h : curs.Code w A n zs) :
    Calls Tryd.prog 11 #[.slice A n cap] w (OPost (-3601) 3601 w) := by
  have H := Lib.hid (cur_new cap h)
  clear h
  go_enter Tryd.func11, Tryd.ntmps11
  go_wp2_with fail
  refine (degrees_any w.heap.size w.heap.size 0 A n cap zs _ (by decide) H.out).mono ?_
  rintro e w1 ⟨x, rfl, x0, x1, hC, hg⟩
  have HB := Lib.hid (low hg)
  clear hC hg H
  go_wp2_with fail
  go_ret
  exact ⟨x, rfl, x0, x1, HB.out⟩
theorem back_draw (A : Option Addr) (n cap : Nat) (zs : List UInt8) (w : World) (h : curs.Code w A n zs) :
    Calls Tryd.prog 26 #[.slice A n cap] w (OPost (-1) 360 w) := by
  have H := Lib.hid (cur_new cap h)
  clear h
  go_enter Tryd.func26, Tryd.ntmps26
  go_wp2_with fail
  refine (bearing_any w.heap.size w.heap.size 0 A n cap zs _ (by decide) H.out).mono ?_
  rintro e w1 ⟨x, rfl, x0, x1, hC, hg⟩
  have HB := Lib.hid (low hg)
  clear hC hg H
  go_wp2_with fail
  go_ret
  exact ⟨x, rfl, x0, x1, HB.out⟩

/-- two drawn numbers -/
def PPost (lo hi lo' hi' : Int) (w : World) (e : Ending) (w' : World) : Prop :=
  ∃ x y : Int, e = .returned (.tuple #[.int .i64 x, .int .i64 y]) ∧ lo ≤ x ∧ x ≤ hi ∧ lo' ≤ y ∧ y ≤ hi' ∧ Below w.heap.size w w'
theorem turn_draw (A : Option Addr) (n cap : Nat) (zs : List UInt8) (w : World) (h : curs.Code w A n zs) :
    Calls Tryd.prog 23 #[.slice A n cap] w (PPost (-1) 360 (-1) 360 w) := by
  have H := Lib.hid (cur_new cap h)
  clear h
  go_enter Tryd.func23, Tryd.ntmps23
  go_wp2_with fail
  refine (bearing_any w.heap.size w.heap.size 0 A n cap zs _ (by decide) H.out).mono ?_
  rintro e w1 ⟨x, rfl, x0, x1, hC, hg⟩
  have HC := Lib.hid hC
  have HG := Lib.hid hg
  clear hC hg H
  go_wp2_with fail
  refine (bearing_any w.heap.size w.heap.size 3 A n cap zs _ (by decide) HC.out).mono ?_
  rintro e w2 ⟨y, rfl, y0, y1, hC, hg⟩
  have HB := Lib.hid (low (HG.out.trans hg))
  clear hC hg HC HG
  go_wp2_with fail
  go_ret2
  exact ⟨x, y, rfl, x0, x1, y0, y1, HB.out⟩
theorem bearingTo_draw (A : Option Addr) (n cap : Nat) (zs : List UInt8) (w : World) (h : curs.Code w A n zs) :
    Calls Tryd.prog 29 #[.slice A n cap] w (PPost (-100001) 100001 (-100001) 100001 w) := by
  have H := Lib.hid (cur_new cap h)
  clear h
  go_enter Tryd.func29, Tryd.ntmps29
  go_wp2_with fail
  refine (long_any w.heap.size w.heap.size 0 A n cap zs _ (by decide) H.out).mono ?_
  rintro e w1 ⟨x, rfl, x0, x1, hC, hg⟩
  have HC := Lib.hid hC
  have HG := Lib.hid hg
  clear hC hg H
  go_wp2_with fail
  refine (long_any w.heap.size w.heap.size 3 A n cap zs _ (by decide) HC.out).mono ?_
  rintro e w2 ⟨y, rfl, y0, y1, hC, hg⟩
  have HB := Lib.hid (low (HG.out.trans hg))
  clear hC hg HC HG
  go_wp2_with fail
  go_ret2
  exact ⟨x, y, rfl, x0, x1, y0, y1, HB.out⟩
theorem part_draw (A : Option Addr) (n cap : Nat) (zs : List UInt8) (w : World) (h : curs.Code w A n zs) :
    Calls Tryd.prog 20 #[.slice A n cap] w (PPost (-100001) 100001 (-3601) 3601 w) := by
  have H := Lib.hid (cur_new cap h)
  clear h
  go_enter Tryd.func20, Tryd.ntmps20
  go_wp2_with fail
  refine (long_any w.heap.size w.heap.size 0 A n cap zs _ (by decide) H.out).mono ?_
  rintro e w1 ⟨x, rfl, x0, x1, hC, hg⟩
  have HC := Lib.hid hC
  have HG := Lib.hid hg
  clear hC hg H
  go_wp2_with fail
  refine (degrees_any w.heap.size w.heap.size 3 A n cap zs _ (by decide) HC.out).mono ?_
  rintro e w2 ⟨y, rfl, y0, y1, hC, hg⟩
  have HB := Lib.hid (low (HG.out.trans hg))
  clear hC hg HC HG
  go_wp2_with fail
  go_ret2
  exact ⟨x, y, rfl, x0, x1, y0, y1, HB.out⟩

theorem most_any (a b : Int) (w : World) : Calls Tryd.prog 60 #[.int .i64 a, .int .i64 b] w fun e w' => (e = .returned (.int .i64 a) ∨ e = .returned (.int .i64 b)) ∧ w = w' := by
  by_cases h : b < a
  · go_enter Tryd.func60, Tryd.ntmps60
    go_wp2_with fail
    go_ret
    exact ⟨.inl rfl, rfl⟩
  · go_enter Tryd.func60, Tryd.ntmps60
    go_wp2_with fail
    go_ret
    exact ⟨.inr rfl, rfl⟩
theorem slope_draw (A : Option Addr) (n cap : Nat) (zs : List UInt8) (w : World) (h : curs.Code w A n zs) :
    Calls Tryd.prog 32 #[.slice A n cap] w (PPost (-100001) 100001 (-100001) 100001 w) := by
  have H := Lib.hid (cur_new cap h)
  clear h
  go_enter Tryd.func32, Tryd.ntmps32
  go_wp2_with fail
  refine (long_any w.heap.size w.heap.size 0 A n cap zs _ (by decide) H.out).mono ?_
  rintro e w1 ⟨x, rfl, x0, x1, hC, hg⟩
  have HC := Lib.hid hC
  have HG := Lib.hid hg
  clear hC hg H
  go_wp2_with fail
  refine (one_any w.heap.size w.heap.size 3 A n cap zs _ 8 (by decide) HC.out (by decide) (by decide)).mono ?_
  rintro e w2 ⟨t, rfl, hC, hg⟩
  have HC2 := Lib.hid hC
  have HG2 := Lib.hid (HG.out.trans hg)
  clear hC hg HC HG
  cases t
  · go_wp2_with fail
    refine (most_any x (-x) _).mono ?_
    rintro e w' ⟨he, rfl⟩
    obtain ⟨q, rfl, q0, q1⟩ : ∃ q : Int, e = .returned (.int .i64 q) ∧ -100001 ≤ q ∧ q ≤ 100001 := by
      rcases he with rfl | rfl
      · exact ⟨x, rfl, x0, x1⟩
      · exact ⟨-x, rfl, by omega, by omega⟩
    clear he
    go_wp2_with fail
    refine (long_any w.heap.size w.heap.size 4 A n cap zs _ (by decide) HC2.out).mono ?_
    rintro e w3 ⟨y, rfl, y0, y1, hC, hg⟩
    have HB := Lib.hid (low (HG2.out.trans hg))
    clear hC hg HC2 HG2
    go_wp2_with fail
    go_ret2
    exact ⟨q, y, rfl, q0, q1, y0, y1, HB.out⟩
  · go_wp2_with fail
    refine (long_any w.heap.size w.heap.size 4 A n cap zs _ (by decide) HC2.out).mono ?_
    rintro e w3 ⟨y, rfl, y0, y1, hC, hg⟩
    have HB := Lib.hid (low (HG2.out.trans hg))
    clear hC hg HC2 HG2
    go_wp2_with fail
    go_ret2
    exact ⟨x, y, rfl, x0, x1, y0, y1, HB.out⟩

/-- three drawn numbers -/
def TPost (lo hi : Int) (w : World) (e : Ending) (w' : World) : Prop :=
  ∃ x y z : Int, e = .returned (.tuple #[.int .i64 x, .int .i64 y, .int .i64 z]) ∧ lo ≤ x ∧ x ≤ hi ∧ lo ≤ y ∧ y ≤ hi ∧ lo ≤ z ∧ z ≤ hi ∧ Below w.heap.size w w'
theorem length_draw (A : Option Addr) (n cap : Nat) (zs : List UInt8) (w : World) (h : curs.Code w A n zs) :
    Calls Tryd.prog 35 #[.slice A n cap] w (TPost (-100001) 100001 w) := by
  have H := Lib.hid (cur_new cap h)
  clear h
  go_enter Tryd.func35, Tryd.ntmps35
  go_wp2_with fail
  refine (long_any w.heap.size w.heap.size 0 A n cap zs _ (by decide) H.out).mono ?_
  rintro e w1 ⟨x, rfl, x0, x1, hC, hg⟩
  have HC := Lib.hid hC
  have HG := Lib.hid hg
  clear hC hg H
  go_wp2_with fail
  refine (long_any w.heap.size w.heap.size 3 A n cap zs _ (by decide) HC.out).mono ?_
  rintro e w2 ⟨y, rfl, y0, y1, hC, hg⟩
  have HC2 := Lib.hid hC
  have HG2 := Lib.hid (HG.out.trans hg)
  clear hC hg HC HG
  go_wp2_with fail
  refine (long_any w.heap.size w.heap.size 6 A n cap zs _ (by decide) HC2.out).mono ?_
  rintro e w3 ⟨z, rfl, z0, z1, hC, hg⟩
  have HB := Lib.hid (low (HG2.out.trans hg))
  clear hC hg HC2 HG2
  go_wp2_with fail
  go_ret3
  exact ⟨x, y, z, rfl, x0, x1, y0, y1, z0, z1, HB.out⟩

set_option maxHeartbeats 1000000 in
theorem round_draw (A : Option Addr) (n cap : Nat) (zs : List UInt8) (w : World) (h : curs.Code w A n zs) :
    Calls Tryd.prog 16 #[.slice A n cap] w (PPost (-1000000001) 1000000002 0 1000001 w) := by
  have H := Lib.hid (cur_new cap h)
  clear h
  go_enter Tryd.func16, Tryd.ntmps16
  go_wp2_with fail
  refine (among_at w.heap.size w.heap.size 0 A n cap zs _ _ (by simp) 12 _ [0, 1, -1, 5, -5, 7, 15, -15, 1000, -2500, 1000000000, -1000000001] (by decide) H.out rfl (by decide) (by decide)).mono ?_
  rintro e w1 ⟨x, hx, rfl, hC, hg⟩
  have hx1 : -1000000001 ≤ x ∧ x ≤ 1000000000 := by simp at hx; omega
  obtain ⟨x0, x1⟩ := hx1
  have HC := Lib.hid hC
  have HG := Lib.hid hg
  clear hC hg H hx
  go_wp2_with fail
  refine (pick_any w.heap.size w.heap.size 1 A n cap zs _ 3 (by decide) HC.out (by decide) (by decide)).mono ?_
  rintro e w2 ⟨r, rfl, hr, hC, hg⟩
  have hr2 : r ≤ 2 := hr
  have HC2 := Lib.hid hC
  have HG2 := Lib.hid (HG.out.trans hg)
  clear hC hg HC HG hr
  go_wp2_with fail
  refine (among_new w.heap.size w.heap.size 2 A n cap zs _ 9 _ [1, 2, 10, 1000, 3, 0, 1000000, 1000001, 7] (by decide) HC2.out rfl (by decide) (by decide)).mono ?_
  rintro e w3 ⟨y, hy, rfl, hC, hg⟩
  have hy1 : 0 ≤ y ∧ y ≤ 1000001 := by simp at hy; omega
  obtain ⟨y0, y1⟩ := hy1
  have HB := Lib.hid (low (HG2.out.trans hg))
  clear hC hg HC2 HG2 hy
  go_wp2_with fail
  go_ret2
  exact ⟨x + r, y, rfl, by omega, by omega, y0, y1, HB.out⟩
end Go.Proofs.YtekbiapgbhaibabDoor.angd
