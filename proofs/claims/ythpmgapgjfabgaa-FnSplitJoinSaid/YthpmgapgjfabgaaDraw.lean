/-
  The drawn inputs of the law on splitting and joining.
  Conditions: the code has at most 65536 bytes.
-/
import Derived.Test.YthpmgapgjfabgaaCur
import Derived.Test.YthpmgapgjfabgaaListC
import Derived.Laws.IdiomStrings
import Derived.Maps.AppendAt
import Derived.Laws.OwnMore
namespace Go.Proofs.Ythpmgapgjfabgaa.drawc
open Go.RowKit
open reads curc listc
set_option linter.unusedVariables false

/-- the code is read -/
def Code (w : World) (A : Option Addr) (n : Nat) (zs : List UInt8) : Prop := Reads w w.heap.size 1 A n (bytesV zs) ∧ n ≤ 65536
theorem Code.below {w w' : World} {A : Option Addr} {n : Nat} {zs : List UInt8} (h : Code w A n zs) (hb : Below w.heap.size w w') : Code w' A n zs := ⟨(h.1.below hb).more hb.size, h.2⟩

theorem cur_new {w : World} {A : Option Addr} {n : Nat} {zs : List UInt8} (cap : Nat) (h : Code w A n zs) : Cur (w.alloc (.cells #[.slice A n cap, .int .i64 0, .int .u64 0] 44)) w.heap.size w.heap.size 0 A n cap zs :=
  ⟨Nat.le_refl _, h.1.alloc (Nat.le_refl _) _, h.2, 0, 0, Nat.le_refl _, by decide, by decide, Blk.new w _ _⟩

def sepL : List ByteArray := [⟨#[44]⟩, ⟨#[44]⟩, ⟨#[32]⟩, ⟨#[]⟩, ⟨#[44, 44]⟩]
def markL : List ByteArray := [⟨#[44]⟩, ⟨#[59]⟩, ⟨#[59]⟩, ⟨#[]⟩, ⟨#[97, 98]⟩]

/-- two texts -/
def TPost (L1 L2 : List ByteArray) (w : World) (e : Ending) (w' : World) : Prop := ∃ s t : ByteArray, s ∈ L1 ∧ t ∈ L2 ∧ e = .returned (.tuple #[.string s, .string t]) ∧ Below w.heap.size w w'

theorem split_draw (A : Option Addr) (n cap : Nat) (zs : List UInt8) (w : World) (h : Code w A n zs) :
    Calls Try.prog 9 #[.slice A n cap] w (TPost anyL sepL w) := by
  have H := Lib.hid (cur_new cap h)
  clear h
  go_enter Try.func9, Try.ntmps9
  go_wp2_with fail
  refine (any_any w.heap.size w.heap.size 0 A n cap zs _ (by decide) H.out).mono ?_
  rintro e w1 ⟨p, hp, rfl, hC, hg⟩
  have hlt := cur_lt hC
  have HB1 := Lib.hid (show Below w.heap.size w w1 from ((Below.refl _ w).alloc (Nat.le_refl _) _).grown hg (by simp) (fun k hk => by injection hk with hk; omega))
  have H1 := Lib.hid (cur_alloc hC (by omega) (.cells (strs sepL).toArray 9))
  have HP := Lib.hid hp
  clear hC hg hp H
  go_wp2_with fail
  refine (of_any w.heap.size w.heap.size 1 A n cap zs _ w1.heap.size 5 _ sepL (by decide) H1.out (Blk.new w1 _ _) (by omega) rfl (by decide) (by decide)).mono ?_
  rintro e w2 ⟨q, hq, rfl, hC, hg⟩
  have HQ := Lib.hid hq
  have HB2 := Lib.hid (show Below w.heap.size w w2 from (HB1.out.alloc HB1.out.size _).grown hg (by have := HB1.out.size; simp; omega) (fun k hk => by injection hk with hk; omega))
  clear hC hg hq
  go_wp2_with fail
  go_ret2
  exact ⟨p, q, HP.out, HQ.out, rfl, HB2.out⟩

theorem less_draw (A : Option Addr) (n cap : Nat) (zs : List UInt8) (w : World) (h : Code w A n zs) :
    Calls Try.prog 14 #[.slice A n cap] w (TPost anyL anyL w) := by
  have H := Lib.hid (cur_new cap h)
  clear h
  go_enter Try.func14, Try.ntmps14
  go_wp2_with fail
  refine (any_any w.heap.size w.heap.size 0 A n cap zs _ (by decide) H.out).mono ?_
  rintro e w1 ⟨p, hp, rfl, hC, hg⟩
  have HB1 := Lib.hid (show Below w.heap.size w w1 from ((Below.refl _ w).alloc (Nat.le_refl _) _).grown hg (by simp) (fun k hk => by injection hk with hk; omega))
  have H1 := Lib.hid hC
  have HP := Lib.hid hp
  clear hC hg hp H
  go_wp2_with fail
  refine (any_any w.heap.size w.heap.size 1 A n cap zs _ (by decide) H1.out).mono ?_
  rintro e w2 ⟨q, hq, rfl, hC, hg⟩
  have HQ := Lib.hid hq
  have HB2 := Lib.hid (show Below w.heap.size w w2 from HB1.out.grown hg HB1.out.size (fun k hk => by injection hk with hk; omega))
  clear hC hg hq
  go_wp2_with fail
  go_ret2
  exact ⟨p, q, HP.out, HQ.out, rfl, HB2.out⟩

/-- a list of texts and a text -/
def JPost (w : World) (e : Ending) (w' : World) : Prop :=
  ∃ (A : Option Addr) (cp : Nat) (ps : List ByteArray) (t : ByteArray), e = .returned (.tuple #[.slice A ps.length cp, .string t]) ∧ t ∈ markL ∧ Reads w' w'.heap.size 1 A ps.length (strs ps) ∧ ps.length ≤ 5 ∧ (∀ p ∈ ps, p.size ≤ 5000) ∧ Below w.heap.size w w'

theorem infoByte : (Try.prog.info? 5).map (fun i => (i.zero, i.size, i.bytes)) = some (some (.int .u8 0), 1, 1) := by kernel_rfl

/-- the cursor behind a growth that leaves it alone -/
theorem cur_grown {w w' : World} {B b k : Nat} {A : Option Addr} {n cap : Nat} {zs : List UInt8} {row : Option Nat} (h : Cur w B b k A n cap zs) (hg : w.grownBy w' row) (hB : B ≤ w.heap.size) (hr : ∀ g, row = some g → B ≤ g) (hne : some b ≠ row) : Cur w' B b k A n cap zs := by
  obtain ⟨c1, c2, c3, pos, sd, c4, c5, c6, c7⟩ := h
  exact ⟨c1, c2.grown hg hB hr, c3, pos, sd, c4, c5, c6, c7.grown hg hne⟩

/-- the texts that were drawn -/
def Drawn (w : World) (k j : Nat) (A : Option Addr) (n cap : Nat) (zs : List UInt8) (v : Value) (wr : World) : Prop :=
  ∃ ps : List ByteArray, ps.length = j ∧ (∀ p ∈ ps, p.size ≤ 5000) ∧ wr.ownsRow (w.heap.size + 1) 9 1 v j (strs ps) ∧ Cur wr w.heap.size w.heap.size k A n cap zs ∧ Below w.heap.size w wr

/-- behind a step of the cursor -/
theorem Drawn.step {w wr w1 : World} {k k' j : Nat} {A : Option Addr} {n cap : Nat} {zs : List UInt8} {v : Value} (h : Drawn w k j A n cap zs v wr) (hC : Cur w1 w.heap.size w.heap.size k' A n cap zs) (hg : wr.grownBy w1 (some w.heap.size)) : Drawn w k' j A n cap zs v w1 := by
  obtain ⟨ps, h1, h2, h3, h4, h5⟩ := h
  have hb := cur_lt h4
  refine ⟨ps, h1, h2, h3.kept hg ?_, hC, h5.grown hg h5.size (fun k hk => by injection hk with hk; omega)⟩
  by_cases e : v.ownBlock = none
  · exact .inl e
  · refine .inr fun e' => ?_
    have := (h3.lt _ e').1
    omega

/-- behind an append -/
theorem drawn_app {w wr w2 : World} {k j : Nat} {A : Option Addr} {n cap : Nat} {zs : List UInt8} {v v' : Value} {x : ByteArray} {o : Obj} (ps : List ByteArray) (h1 : ps.length = j) (h2 : ∀ p ∈ ps, p.size ≤ 5000)
    (h3 : wr.ownsRow (w.heap.size + 1) 9 1 v j (strs ps)) (h4 : Cur wr w.heap.size w.heap.size k A n cap zs) (h5 : Below w.heap.size w wr) (hx : x.size ≤ 5000)
    (hown : w2.ownsRow (w.heap.size + 1) 9 1 v' (j + 1) (strs ps ++ [.string x])) (hg : (wr.alloc o).grownBy w2 v.ownBlock) : Drawn w k (j + 1) A n cap zs v' w2 := by
  have hb := cur_lt h4
  have hne : some w.heap.size ≠ v.ownBlock := fun e => by have := (h3.lt _ e.symm).1; omega
  refine ⟨ps ++ [x], by simp [h1], ?_, by simpa [strs] using hown, cur_grown (cur_alloc h4 (by omega) o) hg (by simp; omega) (fun g e => by have := (h3.lt g e).1; omega) hne, (h5.alloc h5.size o).grown hg (by have := h5.size; simp; omega) (fun g e => by have := (h3.lt g e).1; omega)⟩
  intro p hp
  rcases List.mem_append.1 hp with hp | hp
  · exact h2 p hp
  · rw [List.mem_singleton.1 hp]; exact hx

/-- a new block elsewhere -/
theorem drawn_alloc {w wr : World} {k j : Nat} {A : Option Addr} {n cap : Nat} {zs : List UInt8} {v : Value} (h : Drawn w k j A n cap zs v wr) (o : Obj) : Drawn w k j A n cap zs v (wr.alloc o) := by
  obtain ⟨ps, h1, h2, h3, h4, h5⟩ := h
  exact ⟨ps, h1, h2, h3.alloc o, cur_alloc h4 h5.size o, h5.alloc h5.size o⟩

/-- bytes of nothing -/
def zeros (m : Nat) : Array Value := (List.replicate m (Value.int .u8 0)).toArray
def zstr (m : Nat) : ByteArray := ⟨(List.replicate m (0 : UInt8)).toArray⟩
theorem zstr_size (m : Nat) : (zstr m).size = m := by show (List.replicate m (0 : UInt8)).toArray.size = m; simp
theorem make_zeros (r : Nat) (hr : r ≤ 100) (W : World) : (Instr.makeSlice 22 (.int .i64 (3990 + (r : Int))) (.int .i64 (3990 + (r : Int)))).run Try.prog W = .ok (.slice (some ⟨W.heap.size, 0, none⟩) (3990 + r) (3990 + r)) (W.alloc (.cells (zeros (3990 + r)) 5)) := by
  obtain ⟨i0, hi0, hz0, hz1, hz2⟩ := info_parts infoByte
  have h := run_make_rowN (P := Try.prog) 22 5 i0 _ Try.underlying22 hi0 hz0 .i64 .i64 (3990 + r) (3990 + r) (Nat.le_refl _) (by rw [hz2]; omega) (by omega) W
  rw [hz1, Nat.mul_one, show ((3990 + r : Nat) : Int) = 3990 + (r : Int) by omega] at h
  rw [h]
  have e : madeCells (Value.int .u8 0).cells (3990 + r) = zeros (3990 + r) := Array.toList_inj.1 ((toList_madeCells_one (Value.int .u8 0) (3990 + r)).trans (by simp [zeros]))
  rw [e]
theorem conv_zeros (m : Nat) (W : World) : (convert 22 9 (.slice (some ⟨W.heap.size, 0, none⟩) m m)).run Try.prog (W.alloc (.cells (zeros m) 5)) = .ok (.string (zstr m)) (W.alloc (.cells (zeros m) 5)) := by
  have h := run_convert_bytes_back (P := Try.prog) (W.alloc (.cells (zeros m) 5)) 22 9 5 ⟨W.heap.size, 0, none⟩ m (List.replicate m 0) Try.underlying22 Try.underlying5 Try.underlying9 (fun j hj => by
    have hj' : j < m := by simpa using hj
    have e : (⟨W.heap.size, 0, none⟩ : Addr).add j = ⟨W.heap.size, j, none⟩ := by
      unfold Addr.add
      by_cases h0 : j = 0 <;> simp [h0]
    rw [e, (Blk.new W 5 (zeros m)).cell j]
    simp [zeros, hj'])
  rw [List.length_replicate] at h
  exact h

theorem drawn_end {w wr : World} {k j : Nat} {A : Option Addr} {n cap : Nat} {zs : List UInt8} {v : Value} (h : Drawn w k j A n cap zs v wr) (hj : j ≤ 5) :
    ∃ (A' : Option Addr) (cp : Nat) (ps : List ByteArray), v = .slice A' ps.length cp ∧ Reads wr wr.heap.size 1 A' ps.length (strs ps) ∧ ps.length ≤ 5 ∧ (∀ p ∈ ps, p.size ≤ 5000) ∧ Below w.heap.size w wr := by
  obtain ⟨ps, h1, h2, h3, h4, h5⟩ := h
  have hv : ∃ A' cp, v = .slice A' j cp := by
    rcases h3.2 with ⟨rfl, h0⟩ | ⟨g, cp, cur, rfl, _⟩
    · exact ⟨none, 0, by rw [h0]⟩
    · exact ⟨_, cp, rfl⟩
  obtain ⟨A', cp, rfl⟩ := hv
  subst h1
  exact ⟨A', cp, ps, rfl, Reads.of_own h3, hj, h2, h5⟩
theorem drawn_cur {w wr : World} {k j : Nat} {A : Option Addr} {n cap : Nat} {zs : List UInt8} {v : Value} (h : Drawn w k j A n cap zs v wr) : Cur wr w.heap.size w.heap.size k A n cap zs := by
  obtain ⟨ps, h1, h2, h3, h4, h5⟩ := h
  exact h4

set_option maxHeartbeats 2000000 in
set_option maxRecDepth 100000 in
theorem join_draw (A : Option Addr) (n cap : Nat) (zs : List UInt8) (w : World) (h : Code w A n zs) :
    Calls Try.prog 11 #[.slice A n cap] w (JPost w) := by
  obtain ⟨i0, hi, hz0, hz1, hz2⟩ := info_parts infoString
  have hC0 := cur_new cap h
  have hrow0 := World.ownsRow_made (base := w.heap.size + 1) (e := 9) (size := 1) (w.alloc (.cells #[.slice A n cap, .int .i64 0, .int .u64 0] 44)) #[] 0 (by simp) (by decide) (by simp)
  rw [World.size_alloc] at hrow0
  have HD0 := Lib.hid (show Drawn w 0 0 A n cap zs (.slice (some ⟨w.heap.size + 1, 0, none⟩) 0 0) ((w.alloc (.cells #[.slice A n cap, .int .i64 0, .int .u64 0] 44)).alloc (.cells #[] 9)) from
    ⟨[], rfl, by simp, by simpa [strs] using hrow0, cur_alloc hC0 (by simp) _, ((Below.refl _ w).alloc (Nat.le_refl _) _).alloc (by simp) _⟩)
  have HC0 := Lib.hid (cur_alloc hC0 (by simp) (.cells #[] 9))
  clear hC0 hrow0 h
  go_enter Try.func11, Try.ntmps11
  go_wp2_with fail
  refine (pick_any w.heap.size w.heap.size 0 A n cap zs _ 4 (by decide) HC0.out (by decide) (by decide)).mono ?_
  rintro e w1 ⟨r, rfl, hr, hC, hg⟩
  have HD1 := Lib.hid (HD0.out.step hC hg)
  clear hC hg HD0 HC0
  have hr3 : r ≤ 3 := hr
  go_wp2_with fail
  go_loopw [5, 7] (fun v i wr => ∃ j : Nat, i = .int .i64 j ∧ j ≤ r ∧ Hid (Drawn w (j + 1) j A n cap zs v wr)) (fun _ i _ => r - (intOf i).toNat)
  case atStart => exact ⟨0, rfl, Nat.zero_le _, HD1⟩
  case round =>
    obtain ⟨j, rfl, hj, HD⟩ := hrel
    clear HD1
    by_cases hlt : j < r
    · obtain ⟨ps, h1, h2, h3, h4, h5⟩ := HD.out
      go_wp2_with fail
      refine (any_any w.heap.size w.heap.size (j + 1) A n cap zs _ (by omega) h4).mono ?_
      clear ps h1 h2 h3 h4 h5
      rintro e w2 ⟨p, hp, rfl, hC, hg⟩
      have HD2 := Lib.hid (HD.out.step hC hg)
      have hp10 : p.size ≤ 5000 := by have := anyL_size p hp; omega
      obtain ⟨ps, h1, h2, h3, h4, h5⟩ := HD2.out
      have H1 := Lib.hid h1
      have H2 := Lib.hid h2
      have H3 := Lib.hid h3
      have H4 := Lib.hid h4
      have H5 := Lib.hid h5
      have hsz := h5.size
      have hblt := cur_lt h4
      clear h1 h2 h3 h4 h5 hp hC hg
      go_wp2_with (at_builtin; refine wpList_append_own _ rfl _ _ 26 rfl (w.heap.size + 1) 9 i0 (.string ⟨#[]⟩) 1 16 Try.underlying26 hi hz0 hz1 hz2 rfl (by decide) _ _ _ rfl (H3.out.alloc _) ⟨w2.heap.size, 0, none⟩ 1 1 [.string p] rfl rfl (cell_one_new _ _ _) (by simp [Value.oneCell']) (by unfold maxLen; omega) (by omega) (by simp; omega) ?_; intro v' w3 hown' hgrow _)
      go_roundw
      case rel => exact ⟨j + 1, by go_num, by omega, Lib.hid (drawn_app ps H1.out H2.out H3.out H4.out H5.out hp10 hown' hgrow)⟩
      case measure => simp [intOf]; omega
    · have HJ := Lib.hid (show j = r by omega)
      go_wp2_with fail
      refine (one_any w.heap.size w.heap.size (j + 1) A n cap zs _ 20 (by omega) (drawn_cur HD.out) (by decide) (by decide)).mono ?_
      rintro e w2 ⟨t, rfl, hC, hg⟩
      have HD2 := Lib.hid (HD.out.step hC hg)
      have hblt := cur_lt hC
      clear hC hg HD
      cases t
      · go_wp2_with fail
        refine (of_any w.heap.size w.heap.size (j + 2) A n cap zs _ w2.heap.size 5 _ markL (by omega) (drawn_cur (drawn_alloc HD2.out _)) (Blk.new w2 _ _) (by omega) rfl (by decide) (by decide)).mono ?_
        rintro e w3 ⟨q, hq, rfl, hC, hg⟩
        have HD3 := Lib.hid ((drawn_alloc HD2.out _).step hC hg)
        have HQ := Lib.hid hq
        clear hC hg hq HD2
        go_wp2_with fail
        go_ret2
        obtain ⟨A', cp, ps, rfl, e1, e2, e3, e4⟩ := drawn_end HD3.out (by omega)
        exact ⟨A', cp, ps, q, rfl, HQ.out, e1, e2, e3, e4⟩
      · go_wp2_with fail
        refine (pick_any w.heap.size w.heap.size (j + 2) A n cap zs _ 20 (by omega) (drawn_cur HD2.out) (by decide) (by decide)).mono ?_
        rintro e w3 ⟨r2, rfl, hr2, hC, hg⟩
        have HD3 := Lib.hid (drawn_alloc (HD2.out.step hC hg) (.cells (zeros (3990 + r2)) 5))
        have hblt3 := cur_lt hC
        have hmk := make_zeros r2 (by omega)
        have hcv := conv_zeros (3990 + r2) w3
        obtain ⟨ps, h1, h2, h3, h4, h5⟩ := HD3.out
        have H1 := Lib.hid h1
        have H2 := Lib.hid h2
        have H3 := Lib.hid h3
        have H4 := Lib.hid h4
        have H5 := Lib.hid h5
        have hsz := h5.size
        have hzs : (zstr (3990 + r2)).size ≤ 5000 := by rw [zstr_size]; omega
        clear h1 h2 h3 h4 h5 hC hg
        go_wp2_with (at_builtin; refine wpList_append_own _ rfl _ _ 26 rfl (w.heap.size + 1) 9 i0 (.string ⟨#[]⟩) 1 16 Try.underlying26 hi hz0 hz1 hz2 rfl (by decide) _ _ _ rfl (H3.out.alloc _) ⟨w3.heap.size + 1, 0, none⟩ 1 1 [.string (zstr (3990 + r2))] rfl rfl (by have := cell_one_new (w3.alloc (.cells (zeros (3990 + r2)) 5)) (.string (zstr (3990 + r2))) 9; rw [World.size_alloc] at this; exact this) (by simp [Value.oneCell']) (by unfold maxLen; omega) (by omega) (by simp; omega) ?_; intro v' w4 hown' hgrow _)
        have HD4 := Lib.hid (drawn_app (v := u5) ps H1.out H2.out H3.out H4.out H5.out hzs hown' hgrow)
        have hblt4 := cur_lt (drawn_cur HD4.out)
        clear hown' hgrow hcv HD3
        refine (of_any w.heap.size w.heap.size (j + 2 + 1) A n cap zs _ w4.heap.size 5 _ markL (by omega) (drawn_cur (drawn_alloc HD4.out _)) (Blk.new w4 _ _) (by omega) rfl (by decide) (by decide)).mono ?_
        rintro e w5 ⟨q, hq, rfl, hC, hg⟩
        have HD5 := Lib.hid ((drawn_alloc HD4.out _).step hC hg)
        have HQ := Lib.hid hq
        clear hC hg hq HD4
        go_wp2_with fail
        go_ret2
        obtain ⟨A', cp, ps', rfl, e1, e2, e3, e4⟩ := drawn_end HD5.out (by omega)
        exact ⟨A', cp, ps', q, rfl, HQ.out, e1, e2, e3, e4⟩
end Go.Proofs.Ythpmgapgjfabgaa.drawc
