/-
  The drawn inputs of the law on numbers and checksums.
  Conditions: the code has at most 65536 bytes.
-/
import Derived.Test.YthpmgapgjfabgaaDoorCur
import Derived.Test.YthpmgapgjfabgaaDoorNum
import Derived.Laws.IdiomStrings
import Derived.Laws.OwnMore
namespace Go.Proofs.YthpmgapgjfabgaaDoor.drawd
open Go.RowKit
open reads curc
set_option linter.unusedVariables false

/-- the code is read -/
def Code (w : World) (A : Option Addr) (n : Nat) (zs : List UInt8) : Prop := Reads w w.heap.size 1 A n (bytesV zs) ∧ n ≤ 65536
theorem Code.below {w w' : World} {A : Option Addr} {n : Nat} {zs : List UInt8} (h : Code w A n zs) (hb : Below w.heap.size w w') : Code w' A n zs := ⟨(h.1.below hb).more hb.size, h.2⟩

theorem cur_new {w : World} {A : Option Addr} {n : Nat} {zs : List UInt8} (cap : Nat) (h : Code w A n zs) : Cur (w.alloc (.cells #[.slice A n cap, .int .i64 0, .int .u64 0] 37)) w.heap.size w.heap.size 0 A n cap zs :=
  ⟨Nat.le_refl _, h.1.alloc (Nat.le_refl _) _, h.2, 0, 0, Nat.le_refl _, by decide, by decide, Blk.new w _ _⟩

theorem infoByte : (Tryd.prog.info? 5).map (fun i => (i.zero, i.size, i.bytes)) = some (some (.int .u8 0), 1, 1) := by kernel_rfl

/-- bytes of nothing -/
def zeros (m : Nat) : Array Value := (List.replicate m (Value.int .u8 0)).toArray
def zstr (m : Nat) : ByteArray := ⟨(List.replicate m (0 : UInt8)).toArray⟩
theorem zstr_size (m : Nat) : (zstr m).size = m := by show (List.replicate m (0 : UInt8)).toArray.size = m; simp
theorem make_zeros (r : Nat) (hr : r ≤ 100) (W : World) : (Instr.makeSlice 22 (.int .i64 (3990 + (r : Int))) (.int .i64 (3990 + (r : Int)))).run Tryd.prog W = .ok (.slice (some ⟨W.heap.size, 0, none⟩) (3990 + r) (3990 + r)) (W.alloc (.cells (zeros (3990 + r)) 5)) := by
  obtain ⟨i0, hi0, hz0, hz1, hz2⟩ := info_parts infoByte
  have h := run_make_rowN (P := Tryd.prog) 22 5 i0 _ Tryd.underlying22 hi0 hz0 .i64 .i64 (3990 + r) (3990 + r) (Nat.le_refl _) (by rw [hz2]; omega) (by omega) W
  rw [hz1, Nat.mul_one, show ((3990 + r : Nat) : Int) = 3990 + (r : Int) by omega] at h
  rw [h]
  have e : madeCells (Value.int .u8 0).cells (3990 + r) = zeros (3990 + r) := Array.toList_inj.1 ((toList_madeCells_one (Value.int .u8 0) (3990 + r)).trans (by simp [zeros]))
  rw [e]
theorem conv_zeros (m : Nat) (W : World) : (convert 22 9 (.slice (some ⟨W.heap.size, 0, none⟩) m m)).run Tryd.prog (W.alloc (.cells (zeros m) 5)) = .ok (.string (zstr m)) (W.alloc (.cells (zeros m) 5)) := by
  have h := run_convert_bytes_back (P := Tryd.prog) (W.alloc (.cells (zeros m) 5)) 22 9 5 ⟨W.heap.size, 0, none⟩ m (List.replicate m 0) Tryd.underlying22 Tryd.underlying5 Tryd.underlying9 (fun j hj => by
    have hj' : j < m := by simpa using hj
    have e : (⟨W.heap.size, 0, none⟩ : Addr).add j = ⟨W.heap.size, j, none⟩ := by
      unfold Addr.add
      by_cases h0 : j = 0 <;> simp [h0]
    rw [e, (Blk.new W 5 (zeros m)).cell j]
    simp [zeros, hj'])
  rw [List.length_replicate] at h
  exact h


/-- a pick among many -/
theorem pick_big (B b k : Nat) (A : Option Addr) (n cap : Nat) (zs : List UInt8) (w : World) (x : Nat) (hk : k ≤ 80000) (h : Cur w B b k A n cap zs) (h0 : 200 < x) (h1 : x ≤ 60000) :
    Calls Tryd.prog 22 #[.pointer (some ⟨b, 0, none⟩), .int .i64 x] w (NPost B b (k + 2) A n cap zs (x - 1) w) := by
  have H := Lib.hid h
  clear h
  go_enter Tryd.func22, Tryd.ntmps22
  go_wp2_with fail
  refine (next_any B b k A n cap zs _ (by omega) H.out).mono ?_
  rintro e w1 ⟨r, rfl, hr, hC, hg⟩
  have HC := Lib.hid hC
  have HG := Lib.hid hg
  clear hC hg
  go_wp2_with fail
  refine (next_any B b (k + 1) A n cap zs _ (by omega) HC.out).mono ?_
  rintro e w2 ⟨r2, rfl, hr2, hC, hg⟩
  have HC2 := Lib.hid hC
  have HG2 := Lib.hid (HG.out.trans hg)
  clear hC hg HC HG
  have hr0 : ((r : Int) * 256 + (r2 : Int)) % (x : Int) = (((r * 256 + r2) % x : Nat) : Int) := by rw [Int.natCast_emod, Int.natCast_add, Int.natCast_mul]; rfl
  go_wp2_with fail
  go_ret
  exact ⟨(r * 256 + r2) % x, by first | rfl | (rw [← hr0]; rfl), by have := Nat.mod_lt (r * 256 + r2) (show 0 < x by omega); omega, HC2.out, HG2.out⟩

/-- some numbers as values -/
def intsV (xs : List Int) : List Value := xs.map (Value.int .i64)

/-- what is chosen among some numbers -/
def APost (B b k : Nat) (A : Option Addr) (n cap : Nat) (zs : List UInt8) (xs : List Int) (w : World) (e : Ending) (w' : World) : Prop :=
  ∃ x : Int, x ∈ xs ∧ e = .returned (.int .i64 x) ∧ Cur w' B b k A n cap zs ∧ w.grownBy w' (some b)

theorem among_any (B b k : Nat) (A : Option Addr) (n cap : Nat) (zs : List UInt8) (w : World) (g m cp : Nat) (xs : List Int) (hk : k ≤ 80000) (h : Cur w B b k A n cap zs) (hg : Blk w g 3 (intsV xs).toArray) (hne : g ≠ b) (hm : xs.length = m) (h0 : 0 < m) (h1 : m ≤ 200) :
    Calls Tryd.prog 21 #[.pointer (some ⟨b, 0, none⟩), .slice (some ⟨g, 0, none⟩) m cp] w (APost B b (k + 1) A n cap zs xs w) := by
  have H := Lib.hid h
  have HG := Lib.hid hg
  have HM := Lib.hid hm
  have HN := Lib.hid hne
  clear h hg hm hne
  go_enter Tryd.func21, Tryd.ntmps21
  go_wp2_with fail
  refine (pick_any B b k A n cap zs _ m (by omega) H.out h0 h1).mono ?_
  rintro e w1 ⟨r, rfl, hr, hC, hgr⟩
  have hrm : r < m := by omega
  have hb1 := HG.out.grown hgr (by simpa using HN.out)
  have hrp : r < xs.length := by rw [HM.out]; exact hrm
  have HP := Lib.hid (show xs[r] ∈ xs from List.getElem_mem hrp)
  obtain ⟨p, hp⟩ : ∃ p, xs[r] = p := ⟨_, rfl⟩
  have hcell : w1.cell? ⟨g, r, none⟩ = some (.int .i64 p) := by
    rw [hb1.cell]
    simp [intsV, List.getElem?_eq_getElem hrp, hp]
  rw [hp] at HP
  have hri : (r : Int) < (m : Int) := by omega
  have HC := Lib.hid hC
  have HGR := Lib.hid hgr
  clear hC hgr hb1 hp
  go_wp2_with fail
  go_ret
  exact ⟨p, HP.out, rfl, HC.out, HGR.out⟩

/-- a drawn number -/
def FPost (w : World) (e : Ending) (w' : World) : Prop := ∃ x : Int, e = .returned (.int .i64 x) ∧ -1000000 ≤ x ∧ x ≤ 1000000 ∧ Below w.heap.size w w'

theorem fmt_draw (A : Option Addr) (n cap : Nat) (zs : List UInt8) (w : World) (h : Code w A n zs) :
    Calls Tryd.prog 9 #[.slice A n cap] w (FPost w) := by
  have H := Lib.hid (cur_new cap h)
  clear h
  go_enter Tryd.func9, Tryd.ntmps9
  go_wp2_with fail
  refine (pick_big w.heap.size w.heap.size 0 A n cap zs _ 1000 (by decide) H.out (by decide) (by decide)).mono ?_
  rintro e w1 ⟨r, rfl, hr, hC, hg⟩
  have hlt := cur_lt hC
  have HB1 := Lib.hid (show Below w.heap.size w w1 from ((Below.refl _ w).alloc (Nat.le_refl _) _).grown hg (by simp) (fun k hk => by injection hk with hk; omega))
  have H1 := Lib.hid (cur_alloc hC (by omega) (.cells (intsV [0, 1, -1, 10, 999999, -999999, 1000000, -1000000, (r : Int) - 500]).toArray 3))
  have hr9 : r ≤ 999 := hr
  clear hC hg H hr
  go_wp2_with fail
  refine (among_any w.heap.size w.heap.size 2 A n cap zs _ w1.heap.size 9 _ [0, 1, -1, 10, 999999, -999999, 1000000, -1000000, (r : Int) - 500] (by decide) H1.out (Blk.new w1 _ _) (by omega) rfl (by decide) (by decide)).mono ?_
  rintro e w2 ⟨x, hx, rfl, hC, hg⟩
  have hx1 : -1000000 ≤ x ∧ x ≤ 1000000 := by simp at hx; omega
  have HB2 := Lib.hid (show Below w.heap.size w w2 from (HB1.out.alloc HB1.out.size _).grown hg (by have := HB1.out.size; simp; omega) (fun k hk => by injection hk with hk; omega))
  have HX := Lib.hid hx1
  clear hC hg hx hx1
  go_wp2_with fail
  go_ret
  exact ⟨x, rfl, HX.out.1, HX.out.2, HB2.out⟩

/-- a drawn text -/
def SPost (m : Nat) (w : World) (e : Ending) (w' : World) : Prop := ∃ s : ByteArray, e = .returned (.string s) ∧ s.size ≤ m ∧ Below w.heap.size w w'

def parL : List ByteArray := [⟨#[]⟩, ⟨#[45]⟩, ⟨#[45, 48]⟩, ⟨#[48, 48]⟩, ⟨#[48, 49]⟩, ⟨#[45, 45, 49]⟩, ⟨#[49, 120]⟩, ⟨#[57, 57, 57, 57, 57, 57]⟩, ⟨#[49, 48, 48, 48, 48, 48, 48]⟩, ⟨#[45, 57, 57, 57, 57, 57, 57]⟩, ⟨#[49, 56, 52, 52, 54, 55, 52, 52, 48, 55, 51, 55, 48, 57, 53, 53, 49, 54, 49, 55]⟩]
theorem parL_size : ∀ p ∈ parL, p.size ≤ 20 := by decide

theorem par_draw (A : Option Addr) (n cap : Nat) (zs : List UInt8) (w : World) (h : Code w A n zs) :
    Calls Tryd.prog 12 #[.slice A n cap] w (SPost 4000 w) := by
  have H := Lib.hid (cur_new cap h)
  clear h
  go_enter Tryd.func12, Tryd.ntmps12
  go_wp2_with fail
  refine (one_any w.heap.size w.heap.size 0 A n cap zs _ 2 (by decide) H.out (by decide) (by decide)).mono ?_
  rintro e w1 ⟨t, rfl, hC, hg⟩
  have hlt := cur_lt hC
  have HB1 := Lib.hid (show Below w.heap.size w w1 from ((Below.refl _ w).alloc (Nat.le_refl _) _).grown hg (by simp) (fun k hk => by injection hk with hk; omega))
  have H1 := Lib.hid hC
  have H1a := Lib.hid (cur_alloc hC (by omega) (.cells (strs parL).toArray 9))
  clear hC hg H
  cases t
  · go_wp2_with fail
    refine (pick_big w.heap.size w.heap.size 1 A n cap zs _ 2000 (by decide) H1.out (by decide) (by decide)).mono ?_
    rintro e w2 ⟨r, rfl, hr, hC, hg⟩
    have hr9 : r ≤ 1999 := hr
    have HB2 := Lib.hid (show Below w.heap.size w w2 from HB1.out.grown hg HB1.out.size (fun k hk => by injection hk with hk; omega))
    clear hC hg hr
    go_wp2_with fail
    refine (nums.num_any _ _ (by omega) (by omega)).mono ?_
    rintro e w3 ⟨rfl, m, rfl⟩
    go_wp2_with fail
    go_ret
    refine ⟨_, rfl, ?_, ⟨HB2.out.os, HB2.out.tape, HB2.out.output, HB2.out.size, HB2.out.block⟩⟩
    show (Lib.itoa ((r : Int) - 1000)).toArray.size ≤ 4000
    have d1 := nums.dec_le ((r : Int) - 1000).natAbs
    have d2 := nums.dec_le ((r : Int) - 1000).toNat
    unfold Lib.itoa
    split
    · simp; omega
    · simp; omega
  · go_wp2_with fail
    refine (of_any w.heap.size w.heap.size 1 A n cap zs _ w1.heap.size 11 _ parL (by decide) H1a.out (Blk.new w1 _ _) (by omega) rfl (by decide) (by decide)).mono ?_
    rintro e w2 ⟨q, hq, rfl, hC, hg⟩
    have HQ := Lib.hid (parL_size q hq)
    have HB2 := Lib.hid (show Below w.heap.size w w2 from (HB1.out.alloc HB1.out.size _).grown hg (by have := HB1.out.size; simp; omega) (fun k hk => by injection hk with hk; omega))
    clear hC hg hq
    go_wp2_with fail
    go_ret
    exact ⟨q, rfl, by have := HQ.out; omega, HB2.out⟩

theorem app_draw (A : Option Addr) (n cap : Nat) (zs : List UInt8) (w : World) (h : Code w A n zs) :
    Calls Tryd.prog 15 #[.slice A n cap] w (SPost 4000 w) := by
  have H := Lib.hid (cur_new cap h)
  clear h
  go_enter Tryd.func15, Tryd.ntmps15
  go_wp2_with fail
  refine (one_any w.heap.size w.heap.size 0 A n cap zs _ 20 (by decide) H.out (by decide) (by decide)).mono ?_
  rintro e w1 ⟨t, rfl, hC, hg⟩
  have HB1 := Lib.hid (show Below w.heap.size w w1 from ((Below.refl _ w).alloc (Nat.le_refl _) _).grown hg (by simp) (fun k hk => by injection hk with hk; omega))
  have H1 := Lib.hid hC
  clear hC hg H
  cases t
  · go_wp2_with fail
    refine (any_any w.heap.size w.heap.size 1 A n cap zs _ (by decide) H1.out).mono ?_
    rintro e w2 ⟨q, hq, rfl, hC, hg⟩
    have HQ := Lib.hid (anyL_size q hq)
    have HB2 := Lib.hid (show Below w.heap.size w w2 from HB1.out.grown hg HB1.out.size (fun k hk => by injection hk with hk; omega))
    clear hC hg hq
    go_wp2_with fail
    go_ret
    exact ⟨q, rfl, by have := HQ.out; omega, HB2.out⟩
  · go_wp2_with fail
    refine (pick_any w.heap.size w.heap.size 1 A n cap zs _ 10 (by decide) H1.out (by decide) (by decide)).mono ?_
    rintro e w2 ⟨r, rfl, hr, hC, hg⟩
    have hr9 : r ≤ 9 := hr
    have HB2 := Lib.hid (show Below w.heap.size w w2 from HB1.out.grown hg HB1.out.size (fun k hk => by injection hk with hk; omega))
    have hmk := make_zeros r (by omega)
    have hcv := conv_zeros (3990 + r) w2
    clear hC hg hr
    go_wp2_with fail
    go_ret
    exact ⟨_, rfl, by rw [zstr_size]; omega, HB2.out.alloc HB2.out.size _⟩

/-- a byte of the code, or one in its place -/
def VPost (w : World) (e : Ending) (w' : World) : Prop := ∃ r : Nat, e = .returned (.int .i64 r) ∧ r ≤ 255 ∧ w = w'

theorem at_any (A : Option Addr) (n cap i : Nat) (zs : List UInt8) (w : World) (h : Code w A n zs) (hi : i ≤ 100) :
    Calls Tryd.prog 19 #[.slice A n cap, .int .i64 i] w (VPost w) := by
  have hn := h.2
  have HR := Lib.hid h.1
  clear h
  by_cases hlt : i < n
  · obtain ⟨ad, u, rfl, hbk, hx, hc⟩ := HR.out.at_ hlt
    obtain ⟨z, hz, rfl⟩ : ∃ z : UInt8, zs[i]? = some z ∧ u = .int .u8 z.toNat := by
      simp only [bytesV, List.getElem?_map, Option.map_eq_some_iff] at hx
      obtain ⟨z, h1, h2⟩ := hx
      exact ⟨z, h1, h2.symm⟩
    clear hx hz
    have hzl : z.toNat < 256 := z.toNat_lt
    go_enter Tryd.func19, Tryd.ntmps19
    go_wp2_with fail
    go_ret
    exact ⟨z.toNat, rfl, by omega, rfl⟩
  · have hm : ((i : Int) * 7 + (n : Int)) % 256 = (((i * 7 + n) % 256 : Nat) : Int) := by omega
    go_enter Tryd.func19, Tryd.ntmps19
    go_wp2_with fail
    go_ret
    exact ⟨(i * 7 + n) % 256, by first | rfl | (rw [← hm]; rfl), by omega, rfl⟩
end Go.Proofs.YthpmgapgjfabgaaDoor.drawd
