/-
  The cursor of the drawn inputs: its next byte, a pick, a yes or no, one among some numbers.
  Conditions: the code has at most 65536 bytes.
-/
import Derived.Test.YtnpghhpcloljeaaDoorProg
import Derived.Test.YtnpghhpcloljeaaDoorReads
import Derived.WalkKit
import Derived.Lib.Hide
import Derived.Deep.QuietTactic
import Derived.BigQuiet
import Derived.IntWalk
import Derived.Laws.BitsAllLaws
namespace Go.Proofs.YtnpghhpcloljeaaDoor.curs
open Go.RowKit
open reads
set_option linter.unusedVariables false

/-- a row of bytes -/
def bytesV (zs : List UInt8) : List Value := zs.map fun z => .int .u8 z.toNat

/-- the cursor in block b over the code A, read k times at the most -/
def Cur (w : World) (B b k : Nat) (A : Option Addr) (n cap : Nat) (zs : List UInt8) : Prop :=
  B ≤ b ∧ Reads w B 1 A n (bytesV zs) ∧ n ≤ 65536 ∧ ∃ (pos : Nat) (sd : Int), pos ≤ k ∧ 0 ≤ sd ∧ sd ≤ 18446744073709551615 ∧ Blk w b 72 #[.slice A n cap, .int .i64 pos, .int .u64 sd]

/-- what the next byte is -/
def NPost (B b k : Nat) (A : Option Addr) (n cap : Nat) (zs : List UInt8) (m : Nat) (w : World) (e : Ending) (w' : World) : Prop :=
  ∃ r : Nat, e = .returned (.int .i64 r) ∧ r ≤ m ∧ Cur w' B b k A n cap zs ∧ w.grownBy w' (some b)

theorem u64_lo (x : Int) : 0 ≤ IntKind.u64.wrap x := by rw [IntKind.wrap_u64]; omega
theorem u64_hi (x : Int) : IntKind.u64.wrap x ≤ 18446744073709551615 := by rw [IntKind.wrap_u64]; omega

theorem grown_cell {a w : World} {g : Nat} (h : a.grownBy w (some g)) (i : Nat) (u : Value) : a.grownBy (w.setCell ⟨g, i, none⟩ u) (some g) :=
  ⟨h.os, h.tape, h.output, by simpa [World.setCell] using h.size, fun j hj hne => (Below.heap_setCell w ⟨g, i, none⟩ u j (by rintro rfl; exact hne rfl)).trans (h.block j hj hne)⟩
theorem grown_draw {a w : World} {r : Option Nat} (h : a.grownBy w r) (m : Nat) : a.grownBy (w.drewN m) r := ⟨h.os, h.tape, h.output, h.size, h.block⟩

theorem and255 (x : Int) : ∃ r : Nat, r ≤ 255 ∧ wrap64 (bits .and .u64 x 255) = (r : Int) := by
  have h255 : (BitVec.ofInt 64 255).toNat = 255 := by decide
  have hle : (BitVec.ofInt 64 x &&& BitVec.ofInt 64 255).toNat ≤ 255 := by
    rw [BitVec.toNat_and, h255]
    exact Nat.and_le_right
  refine ⟨(BitVec.ofInt 64 x &&& BitVec.ofInt 64 255).toNat, hle, ?_⟩
  show wrap64 (IntKind.u64.wrap ((BitVec.ofInt 64 x &&& BitVec.ofInt 64 255).toNat : Int)) = _
  generalize (BitVec.ofInt 64 x &&& BitVec.ofInt 64 255).toNat = r at hle
  rw [IntKind.wrap_u64, wrap64]
  omega

/-- the cursor behind a step -/
theorem cur_end {w : World} {B b k : Nat} {A : Option Addr} {n cap pos : Nat} {sd : Int} {zs : List UInt8} (q m : Nat) (y : Int) (hBb : B ≤ b) (hR : Reads w B 1 A n (bytesV zs)) (hn : n ≤ 65536) (hp : pos ≤ k)
    (hb : Blk w b 72 #[.slice A n cap, .int .i64 pos, .int .u64 sd]) (h0 : 0 ≤ y) (h1 : y ≤ 18446744073709551615) :
    Cur ((((w.drewN q).setCell ⟨b, 1, none⟩ (.int .i64 ((pos : Int) + 1))).setCell ⟨b, 2, none⟩ (.int .u64 y)).drewN m) B b (k + 1) A n cap zs ∧
      w.grownBy ((((w.drewN q).setCell ⟨b, 1, none⟩ (.int .i64 ((pos : Int) + 1))).setCell ⟨b, 2, none⟩ (.int .u64 y)).drewN m) (some b) := by
  have hb1 := ((hb.drewN q).set_ 1 (.int .i64 ((pos : Int) + 1))).set_ 2 (.int .u64 y)
  refine ⟨⟨hBb, (((hR.drewN q).setCell (p := ⟨b, 1, none⟩) hBb _).setCell (p := ⟨b, 2, none⟩) hBb _).drewN m, hn, pos + 1, y, by omega, h0, h1, ?_⟩, grown_draw (grown_cell (grown_cell (grown_draw (World.grownBy.refl w _) q) 1 _) 2 _) m⟩
  have e : (#[Value.slice A n cap, .int .i64 pos, .int .u64 sd].setIfInBounds 1 (.int .i64 ((pos : Int) + 1))).setIfInBounds 2 (.int .u64 y) = #[.slice A n cap, .int .i64 ((pos + 1 : Nat) : Int), .int .u64 y] := by simp
  rw [e] at hb1
  exact hb1.drewN m

set_option maxHeartbeats 1000000 in
theorem next_any (B b k : Nat) (A : Option Addr) (n cap : Nat) (zs : List UInt8) (w : World) (hk : k ≤ 100000) (h : Cur w B b k A n cap zs) :
    Calls Tryd.prog 81 #[.pointer (some ⟨b, 0, none⟩)] w (NPost B b (k + 1) A n cap zs 255 w) := by
  obtain ⟨hBb, hR, hn, pos, sd, hp, hs0, hs1, hb⟩ := h
  have c0 : w.cell? ⟨b, 0, none⟩ = some (.slice A n cap) := hb.cell 0
  have c1 : w.cell? ⟨b, 1, none⟩ = some (.int .i64 pos) := hb.cell 1
  have c2 : w.cell? ⟨b, 2, none⟩ = some (.int .u64 sd) := hb.cell 2
  have f1 := hb.frozen 1
  have f2 := hb.frozen 2
  have HB := Lib.hid hb
  have HR := Lib.hid hR
  clear hb hR
  by_cases hlt : pos < n
  · obtain ⟨ad, u, rfl, hbk, hx, hc⟩ := HR.out.at_ hlt
    obtain ⟨z, hz, rfl⟩ : ∃ z : UInt8, zs[pos]? = some z ∧ u = .int .u8 z.toNat := by
      simp only [bytesV, List.getElem?_map, Option.map_eq_some_iff] at hx
      obtain ⟨z, h1, h2⟩ := hx
      exact ⟨z, h1, h2.symm⟩
    clear hx hz
    have hzl := z.toNat_lt
    have hpi : (pos : Int) < (n : Int) := by omega
    have hp0 : 0 ≤ (pos : Int) := by omega
    go_enter Tryd.func81, Tryd.ntmps81
    go_wp2_with fail
    go_quiet (fail)
    go_wp2_with fail
    go_quiet (fail)
    go_wp2_with fail
    go_quiet (fail)
    go_wp2_with fail
    go_ret
    obtain ⟨e1, e2⟩ := cur_end (cap := cap) (sd := sd) _ _ _ hBb HR.out hn hp HB.out (u64_lo _) (u64_hi _)
    exact ⟨z.toNat, rfl, by omega, e1, e2⟩
  · have hpi : ¬ (pos : Int) < (n : Int) := by omega
    have hp0 : 0 ≤ (pos : Int) := by omega
    have hd : decide ((pos : Int) < (n : Int)) = false := by simp; omega
    have hd1 : decide ((pos : Int) + 1 ≤ (n : Int)) = false := by simp; omega
    go_enter Tryd.func81, Tryd.ntmps81
    go_wp2_with fail
    go_quiet (fail)
    go_wp2_with fail
    go_quiet (fail)
    go_wp2_with fail
    go_ret
    obtain ⟨e1, e2⟩ := cur_end (cap := cap) (sd := sd) _ _ _ hBb HR.out hn hp HB.out (u64_lo _) (u64_hi _)
    obtain ⟨r, hr, er⟩ := and255 (IntKind.u64.wrap (IntKind.u64.wrap (IntKind.u64.wrap (sd * 6364136223846793005)) + 933933) / 1099511627776)
    exact ⟨r, by rw [← er]; rfl, hr, e1, e2⟩

/-- a pick among n -/
theorem pick_any (B b k : Nat) (A : Option Addr) (n cap : Nat) (zs : List UInt8) (w : World) (x : Nat) (hk : k ≤ 90000) (h : Cur w B b k A n cap zs) (h0 : 0 < x) (h1 : x ≤ 200) :
    Calls Tryd.prog 67 #[.pointer (some ⟨b, 0, none⟩), .int .i64 x] w (NPost B b (k + 1) A n cap zs (x - 1) w) := by
  have H := Lib.hid h
  clear h
  by_cases hx : x ≤ 1
  · have HX := Lib.hid (show x = 1 by omega)
    go_enter Tryd.func67, Tryd.ntmps67
    go_wp2_with fail
    go_ret
    obtain ⟨c1, c2, c3, pos, sd, c4, c5⟩ := H.out
    exact ⟨0, rfl, Nat.zero_le _, ⟨c1, c2, c3, pos, sd, by omega, c5⟩, World.grownBy.refl w _⟩
  · go_enter Tryd.func67, Tryd.ntmps67
    go_wp2_with fail
    refine (next_any B b k A n cap zs _ (by omega) H.out).mono ?_
    rintro e w1 ⟨r, rfl, hr, hC, hg⟩
    have HC := Lib.hid hC
    have HG := Lib.hid hg
    clear hC hg
    have hr0 : (r : Int) % (x : Int) = ((r % x : Nat) : Int) := by omega
    go_wp2_with fail
    go_ret
    exact ⟨r % x, by rfl, by have := Nat.mod_lt r h0; omega, HC.out, HG.out⟩

theorem cur_alloc {w : World} {B b k : Nat} {A : Option Addr} {n cap : Nat} {zs : List UInt8} (h : Cur w B b k A n cap zs) (hB : B ≤ w.heap.size) (o : Obj) : Cur (w.alloc o) B b k A n cap zs := by
  obtain ⟨c1, c2, c3, pos, sd, c4, c5, c6, c7⟩ := h
  exact ⟨c1, c2.alloc hB o, c3, pos, sd, c4, c5, c6, c7.alloc o⟩
theorem cur_lt {w : World} {B b k : Nat} {A : Option Addr} {n cap : Nat} {zs : List UInt8} (h : Cur w B b k A n cap zs) : b < w.heap.size := by
  obtain ⟨c1, c2, c3, pos, sd, c4, c5, c6, c7⟩ := h
  exact c7.lt

/-- a yes or no -/
def BPost (B b k : Nat) (A : Option Addr) (n cap : Nat) (zs : List UInt8) (w : World) (e : Ending) (w' : World) : Prop :=
  ∃ t : Bool, e = .returned (.bool t) ∧ Cur w' B b k A n cap zs ∧ w.grownBy w' (some b)

theorem one_any (B b k : Nat) (A : Option Addr) (n cap : Nat) (zs : List UInt8) (w : World) (x : Nat) (hk : k ≤ 80000) (h : Cur w B b k A n cap zs) (h0 : 0 < x) (h1 : x ≤ 200) :
    Calls Tryd.prog 65 #[.pointer (some ⟨b, 0, none⟩), .int .i64 x] w (BPost B b (k + 1) A n cap zs w) := by
  have H := Lib.hid h
  clear h
  go_enter Tryd.func65, Tryd.ntmps65
  go_wp2_with fail
  refine (pick_any B b k A n cap zs _ x (by omega) H.out h0 h1).mono ?_
  rintro e w1 ⟨r, rfl, hr, hC, hgr⟩
  have HC := Lib.hid hC
  have HGR := Lib.hid hgr
  clear hC hgr
  go_wp2_with fail
  go_ret
  exact ⟨_, rfl, HC.out, HGR.out⟩

/-- the code is read -/
def Code (w : World) (A : Option Addr) (n : Nat) (zs : List UInt8) : Prop := Reads w w.heap.size 1 A n (bytesV zs) ∧ n ≤ 65536
theorem Code.below {w w' : World} {A : Option Addr} {n : Nat} {zs : List UInt8} (h : Code w A n zs) (hb : Below w.heap.size w w') : Code w' A n zs := ⟨(h.1.below hb).more hb.size, h.2⟩

theorem cur_new {w : World} {A : Option Addr} {n : Nat} {zs : List UInt8} (cap : Nat) (h : Code w A n zs) : Cur (w.alloc (.cells #[.slice A n cap, .int .i64 0, .int .u64 0] 72)) w.heap.size w.heap.size 0 A n cap zs :=
  ⟨Nat.le_refl _, h.1.alloc (Nat.le_refl _) _, h.2, 0, 0, Nat.le_refl _, by decide, by decide, Blk.new w _ _⟩

/-- a pick among many -/
theorem pick_big (B b k : Nat) (A : Option Addr) (n cap : Nat) (zs : List UInt8) (w : World) (x : Nat) (hk : k ≤ 80000) (h : Cur w B b k A n cap zs) (h0 : 200 < x) (h1 : x ≤ 60000) :
    Calls Tryd.prog 67 #[.pointer (some ⟨b, 0, none⟩), .int .i64 x] w (NPost B b (k + 2) A n cap zs (x - 1) w) := by
  have H := Lib.hid h
  clear h
  go_enter Tryd.func67, Tryd.ntmps67
  go_wp2_with fail
  refine (next_any B b k A n cap zs _ (by omega) H.out).mono ?_
  rintro e w1 ⟨r, rfl, hr, hC, hg⟩
  have HC := Lib.hid hC
  have HG := Lib.hid hg
  clear hC hg
  go_wp2_with fail
  refine (next_any B b (k + 1) A n cap zs _ (by omega) HC.out).mono ?_
  rintro e w2 ⟨r2, rfl, hr2, hC, hg⟩
  have HC2 := Lib.hid hC
  have HG2 := Lib.hid (HG.out.trans hg)
  clear hC hg HC HG
  have hr0 : ((r : Int) * 256 + (r2 : Int)) % (x : Int) = (((r * 256 + r2) % x : Nat) : Int) := by rw [Int.natCast_emod, Int.natCast_add, Int.natCast_mul]; rfl
  go_wp2_with fail
  go_ret
  exact ⟨(r * 256 + r2) % x, by first | rfl | (rw [← hr0]; rfl), by have := Nat.mod_lt (r * 256 + r2) (show 0 < x by omega); omega, HC2.out, HG2.out⟩

/-- some numbers as values -/
def intsV (xs : List Int) : List Value := xs.map (Value.int .i64)

/-- what is chosen among some numbers -/
def APost (B b k : Nat) (A : Option Addr) (n cap : Nat) (zs : List UInt8) (xs : List Int) (w : World) (e : Ending) (w' : World) : Prop :=
  ∃ x : Int, x ∈ xs ∧ e = .returned (.int .i64 x) ∧ Cur w' B b k A n cap zs ∧ w.grownBy w' (some b)

theorem among_any (B b k : Nat) (A : Option Addr) (n cap : Nat) (zs : List UInt8) (w : World) (g m cp : Nat) (xs : List Int) (hk : k ≤ 80000) (h : Cur w B b k A n cap zs) (hg : Blk w g 3 (intsV xs).toArray) (hne : g ≠ b) (hm : xs.length = m) (h0 : 0 < m) (h1 : m ≤ 200) :
    Calls Tryd.prog 66 #[.pointer (some ⟨b, 0, none⟩), .slice (some ⟨g, 0, none⟩) m cp] w (APost B b (k + 1) A n cap zs xs w) := by
  have H := Lib.hid h
  have HG := Lib.hid hg
  have HM := Lib.hid hm
  have HN := Lib.hid hne
  clear h hg hm hne
  go_enter Tryd.func66, Tryd.ntmps66
  go_wp2_with fail
  refine (pick_any B b k A n cap zs _ m (by omega) H.out h0 h1).mono ?_
  rintro e w1 ⟨r, rfl, hr, hC, hgr⟩
  have hrm : r < m := by omega
  have hb1 := HG.out.grown hgr (by simpa using HN.out)
  have hrp : r < xs.length := by rw [HM.out]; exact hrm
  have HP := Lib.hid (show xs[r] ∈ xs from List.getElem_mem hrp)
  obtain ⟨p, hp⟩ : ∃ p, xs[r] = p := ⟨_, rfl⟩
  have hcell : w1.cell? ⟨g, r, none⟩ = some (.int .i64 p) := by
    rw [hb1.cell]
    simp [intsV, List.getElem?_eq_getElem hrp, hp]
  rw [hp] at HP
  have hri : (r : Int) < (m : Int) := by omega
  have HC := Lib.hid hC
  have HGR := Lib.hid hgr
  clear hC hgr hb1 hp
  go_wp2_with fail
  go_ret
  exact ⟨p, HP.out, rfl, HC.out, HGR.out⟩

end Go.Proofs.YtnpghhpcloljeaaDoor.curs
