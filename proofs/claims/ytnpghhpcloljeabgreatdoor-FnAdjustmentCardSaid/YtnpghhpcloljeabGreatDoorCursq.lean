/-
  The cursor of the drawn inputs: its next byte, a pick, a yes or no, one among some numbers.
  Small helpers of the laws: a great code, equal lists of ints.
  The last step of a law's row where the call leaves a world of which no more is known than that nothing old has turned.
  Small helpers of the laws: whether a list of ints has one, whether all of a list lie in another.
  A slice of bytes that came in reads as a list of bytes.
  Conditions: those that each theorem names.
-/
import Derived.Test.YtnpghhpcloljeabGreatDoorProg
import Derived.Test.YtnpghhpcloljeabGreatDoorReadsq
import Derived.WalkKit
import Derived.Lib.Hide
import Derived.Deep.QuietTactic
import Derived.BigQuiet
import Derived.IntWalk
import Derived.Laws.BitsAllLaws
import Derived.LoopTactic
import Derived.Below
import Derived.ChangeSame
import Derived.Deep.Draws
import Derived.Test.YtnpghhpcloljeabGreatDoorNtAq
import Derived.Test.YtnpghhpcloljeabGreatDoorRows
import Derived.ProofKit
import Derived.OpenShut
namespace Go.Proofs.YtnpghhpcloljeabGreatDoor.curs
open Go.RowKit
open reads
set_option linter.unusedVariables false

/-- a row of bytes -/
def bytesV (zs : List UInt8) : List Value := zs.map fun z => .int .u8 z.toNat

/-- the cursor in block b over the code A, read k times at the most -/
def Cur (w : World) (B b k : Nat) (A : Option Addr) (n cap : Nat) (zs : List UInt8) : Prop :=
  B ≤ b ∧ Reads w B 1 A n (bytesV zs) ∧ n ≤ 65536 ∧ ∃ (pos : Nat) (sd : Int), pos ≤ k ∧ 0 ≤ sd ∧ sd ≤ 18446744073709551615 ∧ Blk w b 60 #[.slice A n cap, .int .i64 pos, .int .u64 sd]

/-- what the next byte is -/
def NPost (B b k : Nat) (A : Option Addr) (n cap : Nat) (zs : List UInt8) (m : Nat) (w : World) (e : Ending) (w' : World) : Prop :=
  ∃ r : Nat, e = .returned (.int .i64 r) ∧ r ≤ m ∧ Cur w' B b k A n cap zs ∧ w.grownBy w' (some b)

theorem u64_lo (x : Int) : 0 ≤ IntKind.u64.wrap x := by rw [IntKind.wrap_u64]; omega
theorem u64_hi (x : Int) : IntKind.u64.wrap x ≤ 18446744073709551615 := by rw [IntKind.wrap_u64]; omega

theorem grown_cell {a w : World} {g : Nat} (h : a.grownBy w (some g)) (i : Nat) (u : Value) : a.grownBy (w.setCell ⟨g, i, none⟩ u) (some g) :=
  ⟨h.os, h.tape, h.output, by simpa [World.setCell] using h.size, fun j hj hne => (Below.heap_setCell w ⟨g, i, none⟩ u j (by rintro rfl; exact hne rfl)).trans (h.block j hj hne)⟩
theorem grown_draw {a w : World} {r : Option Nat} (h : a.grownBy w r) (m : Nat) : a.grownBy (w.drewN m) r := ⟨h.os, h.tape, h.output, h.size, h.block⟩

theorem and255 (x : Int) : ∃ r : Nat, r ≤ 255 ∧ wrap64 (bits .and .u64 x 255) = (r : Int) := by
  have h255 : (BitVec.ofInt 64 255).toNat = 255 := by decide
  have hle : (BitVec.ofInt 64 x &&& BitVec.ofInt 64 255).toNat ≤ 255 := by
    rw [BitVec.toNat_and, h255]
    exact Nat.and_le_right
  refine ⟨(BitVec.ofInt 64 x &&& BitVec.ofInt 64 255).toNat, hle, ?_⟩
  show wrap64 (IntKind.u64.wrap ((BitVec.ofInt 64 x &&& BitVec.ofInt 64 255).toNat : Int)) = _
  generalize (BitVec.ofInt 64 x &&& BitVec.ofInt 64 255).toNat = r at hle
  rw [IntKind.wrap_u64, wrap64]
  omega

/-- the cursor behind a step -/
theorem cur_end {w : World} {B b k : Nat} {A : Option Addr} {n cap pos : Nat} {sd : Int} {zs : List UInt8} (q m : Nat) (y : Int) (hBb : B ≤ b) (hR : Reads w B 1 A n (bytesV zs)) (hn : n ≤ 65536) (hp : pos ≤ k)
    (hb : Blk w b 60 #[.slice A n cap, .int .i64 pos, .int .u64 sd]) (h0 : 0 ≤ y) (h1 : y ≤ 18446744073709551615) :
    Cur ((((w.drewN q).setCell ⟨b, 1, none⟩ (.int .i64 ((pos : Int) + 1))).setCell ⟨b, 2, none⟩ (.int .u64 y)).drewN m) B b (k + 1) A n cap zs ∧
      w.grownBy ((((w.drewN q).setCell ⟨b, 1, none⟩ (.int .i64 ((pos : Int) + 1))).setCell ⟨b, 2, none⟩ (.int .u64 y)).drewN m) (some b) := by
  have hb1 := ((hb.drewN q).set_ 1 (.int .i64 ((pos : Int) + 1))).set_ 2 (.int .u64 y)
  refine ⟨⟨hBb, (((hR.drewN q).setCell (p := ⟨b, 1, none⟩) hBb _).setCell (p := ⟨b, 2, none⟩) hBb _).drewN m, hn, pos + 1, y, by omega, h0, h1, ?_⟩, grown_draw (grown_cell (grown_cell (grown_draw (World.grownBy.refl w _) q) 1 _) 2 _) m⟩
  have e : (#[Value.slice A n cap, .int .i64 pos, .int .u64 sd].setIfInBounds 1 (.int .i64 ((pos : Int) + 1))).setIfInBounds 2 (.int .u64 y) = #[.slice A n cap, .int .i64 ((pos + 1 : Nat) : Int), .int .u64 y] := by simp
  rw [e] at hb1
  exact hb1.drewN m

set_option maxHeartbeats 1000000 in
theorem next_any (B b k : Nat) (A : Option Addr) (n cap : Nat) (zs : List UInt8) (w : World) (hk : k ≤ 100000) (h : Cur w B b k A n cap zs) :
    Calls Tryz.prog 132 #[.pointer (some ⟨b, 0, none⟩)] w (NPost B b (k + 1) A n cap zs 255 w) := by
  obtain ⟨hBb, hR, hn, pos, sd, hp, hs0, hs1, hb⟩ := h
  have c0 : w.cell? ⟨b, 0, none⟩ = some (.slice A n cap) := hb.cell 0
  have c1 : w.cell? ⟨b, 1, none⟩ = some (.int .i64 pos) := hb.cell 1
  have c2 : w.cell? ⟨b, 2, none⟩ = some (.int .u64 sd) := hb.cell 2
  have f1 := hb.frozen 1
  have f2 := hb.frozen 2
  have HB := Lib.hid hb
  have HR := Lib.hid hR
  clear hb hR
  by_cases hlt : pos < n
  · obtain ⟨ad, u, rfl, hbk, hx, hc⟩ := HR.out.at_ hlt
    obtain ⟨z, hz, rfl⟩ : ∃ z : UInt8, zs[pos]? = some z ∧ u = .int .u8 z.toNat := by
      simp only [bytesV, List.getElem?_map, Option.map_eq_some_iff] at hx
      obtain ⟨z, h1, h2⟩ := hx
      exact ⟨z, h1, h2.symm⟩
    clear hx hz
    have hzl := z.toNat_lt
    have hpi : (pos : Int) < (n : Int) := by omega
    have hp0 : 0 ≤ (pos : Int) := by omega
    go_enter Tryz.func132, Tryz.ntmps132
    go_wp2_with fail
    go_quiet (fail)
    go_wp2_with fail
    go_quiet (fail)
    go_wp2_with fail
    go_quiet (fail)
    go_wp2_with fail
    go_ret
    obtain ⟨e1, e2⟩ := cur_end (cap := cap) (sd := sd) _ _ _ hBb HR.out hn hp HB.out (u64_lo _) (u64_hi _)
    exact ⟨z.toNat, rfl, by omega, e1, e2⟩
  · have hpi : ¬ (pos : Int) < (n : Int) := by omega
    have hp0 : 0 ≤ (pos : Int) := by omega
    have hd : decide ((pos : Int) < (n : Int)) = false := by simp; omega
    have hd1 : decide ((pos : Int) + 1 ≤ (n : Int)) = false := by simp; omega
    go_enter Tryz.func132, Tryz.ntmps132
    go_wp2_with fail
    go_quiet (fail)
    go_wp2_with fail
    go_quiet (fail)
    go_wp2_with fail
    go_ret
    obtain ⟨e1, e2⟩ := cur_end (cap := cap) (sd := sd) _ _ _ hBb HR.out hn hp HB.out (u64_lo _) (u64_hi _)
    obtain ⟨r, hr, er⟩ := and255 (IntKind.u64.wrap (IntKind.u64.wrap (IntKind.u64.wrap (sd * 6364136223846793005)) + 933933) / 1099511627776)
    exact ⟨r, by rw [← er]; rfl, hr, e1, e2⟩

/-- a pick among n -/
theorem pick_any (B b k : Nat) (A : Option Addr) (n cap : Nat) (zs : List UInt8) (w : World) (x : Nat) (hk : k ≤ 90000) (h : Cur w B b k A n cap zs) (h0 : 0 < x) (h1 : x ≤ 200) :
    Calls Tryz.prog 84 #[.pointer (some ⟨b, 0, none⟩), .int .i64 x] w (NPost B b (k + 1) A n cap zs (x - 1) w) := by
  have H := Lib.hid h
  clear h
  by_cases hx : x ≤ 1
  · have HX := Lib.hid (show x = 1 by omega)
    go_enter Tryz.func84, Tryz.ntmps84
    go_wp2_with fail
    go_ret
    obtain ⟨c1, c2, c3, pos, sd, c4, c5⟩ := H.out
    exact ⟨0, rfl, Nat.zero_le _, ⟨c1, c2, c3, pos, sd, by omega, c5⟩, World.grownBy.refl w _⟩
  · go_enter Tryz.func84, Tryz.ntmps84
    go_wp2_with fail
    refine (next_any B b k A n cap zs _ (by omega) H.out).mono ?_
    rintro e w1 ⟨r, rfl, hr, hC, hg⟩
    have HC := Lib.hid hC
    have HG := Lib.hid hg
    clear hC hg
    have hr0 : (r : Int) % (x : Int) = ((r % x : Nat) : Int) := by omega
    go_wp2_with fail
    go_ret
    exact ⟨r % x, by rfl, by have := Nat.mod_lt r h0; omega, HC.out, HG.out⟩

theorem cur_alloc {w : World} {B b k : Nat} {A : Option Addr} {n cap : Nat} {zs : List UInt8} (h : Cur w B b k A n cap zs) (hB : B ≤ w.heap.size) (o : Obj) : Cur (w.alloc o) B b k A n cap zs := by
  obtain ⟨c1, c2, c3, pos, sd, c4, c5, c6, c7⟩ := h
  exact ⟨c1, c2.alloc hB o, c3, pos, sd, c4, c5, c6, c7.alloc o⟩
theorem cur_lt {w : World} {B b k : Nat} {A : Option Addr} {n cap : Nat} {zs : List UInt8} (h : Cur w B b k A n cap zs) : b < w.heap.size := by
  obtain ⟨c1, c2, c3, pos, sd, c4, c5, c6, c7⟩ := h
  exact c7.lt

/-- a yes or no -/
def BPost (B b k : Nat) (A : Option Addr) (n cap : Nat) (zs : List UInt8) (w : World) (e : Ending) (w' : World) : Prop :=
  ∃ t : Bool, e = .returned (.bool t) ∧ Cur w' B b k A n cap zs ∧ w.grownBy w' (some b)

theorem one_any (B b k : Nat) (A : Option Addr) (n cap : Nat) (zs : List UInt8) (w : World) (x : Nat) (hk : k ≤ 80000) (h : Cur w B b k A n cap zs) (h0 : 0 < x) (h1 : x ≤ 200) :
    Calls Tryz.prog 109 #[.pointer (some ⟨b, 0, none⟩), .int .i64 x] w (BPost B b (k + 1) A n cap zs w) := by
  have H := Lib.hid h
  clear h
  go_enter Tryz.func109, Tryz.ntmps109
  go_wp2_with fail
  refine (pick_any B b k A n cap zs _ x (by omega) H.out h0 h1).mono ?_
  rintro e w1 ⟨r, rfl, hr, hC, hgr⟩
  have HC := Lib.hid hC
  have HGR := Lib.hid hgr
  clear hC hgr
  go_wp2_with fail
  go_ret
  exact ⟨_, rfl, HC.out, HGR.out⟩

/-- the code is read -/
def Code (w : World) (A : Option Addr) (n : Nat) (zs : List UInt8) : Prop := Reads w w.heap.size 1 A n (bytesV zs) ∧ n ≤ 65536
theorem Code.below {w w' : World} {A : Option Addr} {n : Nat} {zs : List UInt8} (h : Code w A n zs) (hb : Below w.heap.size w w') : Code w' A n zs := ⟨(h.1.below hb).more hb.size, h.2⟩

theorem cur_new {w : World} {A : Option Addr} {n : Nat} {zs : List UInt8} (cap : Nat) (h : Code w A n zs) : Cur (w.alloc (.cells #[.slice A n cap, .int .i64 0, .int .u64 0] 60)) w.heap.size w.heap.size 0 A n cap zs :=
  ⟨Nat.le_refl _, h.1.alloc (Nat.le_refl _) _, h.2, 0, 0, Nat.le_refl _, by decide, by decide, Blk.new w _ _⟩

/-- a pick among many -/
theorem pick_big (B b k : Nat) (A : Option Addr) (n cap : Nat) (zs : List UInt8) (w : World) (x : Nat) (hk : k ≤ 80000) (h : Cur w B b k A n cap zs) (h0 : 200 < x) (h1 : x ≤ 60000) :
    Calls Tryz.prog 84 #[.pointer (some ⟨b, 0, none⟩), .int .i64 x] w (NPost B b (k + 2) A n cap zs (x - 1) w) := by
  have H := Lib.hid h
  clear h
  go_enter Tryz.func84, Tryz.ntmps84
  go_wp2_with fail
  refine (next_any B b k A n cap zs _ (by omega) H.out).mono ?_
  rintro e w1 ⟨r, rfl, hr, hC, hg⟩
  have HC := Lib.hid hC
  have HG := Lib.hid hg
  clear hC hg
  go_wp2_with fail
  refine (next_any B b (k + 1) A n cap zs _ (by omega) HC.out).mono ?_
  rintro e w2 ⟨r2, rfl, hr2, hC, hg⟩
  have HC2 := Lib.hid hC
  have HG2 := Lib.hid (HG.out.trans hg)
  clear hC hg HC HG
  have hr0 : ((r : Int) * 256 + (r2 : Int)) % (x : Int) = (((r * 256 + r2) % x : Nat) : Int) := by rw [Int.natCast_emod, Int.natCast_add, Int.natCast_mul]; rfl
  go_wp2_with fail
  go_ret
  exact ⟨(r * 256 + r2) % x, by first | rfl | (rw [← hr0]; rfl), by have := Nat.mod_lt (r * 256 + r2) (show 0 < x by omega); omega, HC2.out, HG2.out⟩

/-- some numbers as values -/
def intsV (xs : List Int) : List Value := xs.map (Value.int .i64)

/-- what is chosen among some numbers -/
def APost (B b k : Nat) (A : Option Addr) (n cap : Nat) (zs : List UInt8) (xs : List Int) (w : World) (e : Ending) (w' : World) : Prop :=
  ∃ x : Int, x ∈ xs ∧ e = .returned (.int .i64 x) ∧ Cur w' B b k A n cap zs ∧ w.grownBy w' (some b)

theorem among_any (B b k : Nat) (A : Option Addr) (n cap : Nat) (zs : List UInt8) (w : World) (g m cp : Nat) (xs : List Int) (hk : k ≤ 80000) (h : Cur w B b k A n cap zs) (hg : Blk w g 3 (intsV xs).toArray) (hne : g ≠ b) (hm : xs.length = m) (h0 : 0 < m) (h1 : m ≤ 200) :
    Calls Tryz.prog 85 #[.pointer (some ⟨b, 0, none⟩), .slice (some ⟨g, 0, none⟩) m cp] w (APost B b (k + 1) A n cap zs xs w) := by
  have H := Lib.hid h
  have HG := Lib.hid hg
  have HM := Lib.hid hm
  have HN := Lib.hid hne
  clear h hg hm hne
  go_enter Tryz.func85, Tryz.ntmps85
  go_wp2_with fail
  refine (pick_any B b k A n cap zs _ m (by omega) H.out h0 h1).mono ?_
  rintro e w1 ⟨r, rfl, hr, hC, hgr⟩
  have hrm : r < m := by omega
  have hb1 := HG.out.grown hgr (by simpa using HN.out)
  have hrp : r < xs.length := by rw [HM.out]; exact hrm
  have HP := Lib.hid (show xs[r] ∈ xs from List.getElem_mem hrp)
  obtain ⟨p, hp⟩ : ∃ p, xs[r] = p := ⟨_, rfl⟩
  have hcell : w1.cell? ⟨g, r, none⟩ = some (.int .i64 p) := by
    rw [hb1.cell]
    simp [intsV, List.getElem?_eq_getElem hrp, hp]
  rw [hp] at HP
  have hri : (r : Int) < (m : Int) := by omega
  have HC := Lib.hid hC
  have HGR := Lib.hid hgr
  clear hC hgr hb1 hp
  go_wp2_with fail
  go_ret
  exact ⟨p, HP.out, rfl, HC.out, HGR.out⟩

end Go.Proofs.YtnpghhpcloljeabGreatDoor.curs

namespace Go.Proofs.YtnpghhpcloljeabGreatDoor.vs
open Go.RowKit
open reads ints
set_option linter.unusedVariables false

def EqPost (w : World) (e : Ending) (w' : World) : Prop := e = .returned (.bool true) ∧ ∃ m, w' = w.drewN m
theorem big_yes (A : Option Addr) (n cap : Nat) (w : World) (h : 65536 < n) (hm : n ≤ maxLen) :
    Calls Tryz.prog 7 #[.slice A n cap] w fun e w' => e = .returned (.bool true) ∧ w = w' := by
  unfold maxLen at hm
  have hd : decide (65536 < n) = true := by simpa using h
  have hd2 : decide (65536 < (n : Int)) = true := by simp; omega
  go_enter Tryz.func7, Tryz.ntmps7
  go_wp2_with fail
  go_ret
  exact ⟨rfl, rfl⟩
theorem big_no (A : Option Addr) (n cap : Nat) (w : World) (h : n ≤ 65536) :
    Calls Tryz.prog 7 #[.slice A n cap] w fun e w' => e = .returned (.bool false) ∧ w = w' := by
  have hd : decide (65536 < n) = false := by simpa using h
  have hd2 : decide (65536 < (n : Int)) = false := by simp; omega
  go_enter Tryz.func7, Tryz.ntmps7
  go_wp2_with fail
  go_ret
  exact ⟨rfl, rfl⟩
set_option maxHeartbeats 1000000 in
theorem vints_any (A A' : Option Addr) (n c c' : Nat) (xs : List Int) (w : World) (hn : n ≤ 2000000) (h : Hid (IL w A n xs)) (h' : Hid (IL w A' n xs)) :
    Calls Tryz.prog 11 #[.slice A n c, .slice A' n c'] w (EqPost w) := by
  go_enter Tryz.func11, Tryz.ntmps11
  go_wp2_with fail
  go_loopw [5] (fun i wr => ∃ k m : Nat, k ≤ n ∧ i = .int .i64 k ∧ wr = w.drewN m) (fun i _ => n - (intOf i).toNat)
  case atStart => exact ⟨0, 0, Nat.zero_le _, rfl, rfl⟩
  case round =>
    obtain ⟨k, m, hk, rfl, rfl⟩ := hrel
    by_cases hlt : k < n
    · obtain ⟨x, hx⟩ : ∃ x, xs[k]? = some x := ⟨_, List.getElem?_eq_getElem (by rw [h.out.1]; exact hlt)⟩
      obtain ⟨g, rfl, e0⟩ := h.out.2 k x hx
      obtain ⟨g', rfl, e1⟩ := h'.out.2 k x hx
      clear hx
      have hki : (k : Int) < (n : Int) := by omega
      have hk0 : 0 ≤ (k : Int) := by omega
      have hkd : decide (k < n) = true := by simpa using hlt
      go_wp2_with fail
      go_quiet (fail)
      go_wp2_with fail
      go_roundw
      case rel => exact ⟨k + 1, _, by omega, by go_num, rfl⟩
      case measure => simp [intOf]; omega
    · have hkd : decide (k < n) = false := by simpa using hlt
      go_wp2_with fail
      go_ret
      exact ⟨rfl, m, rfl⟩

end Go.Proofs.YtnpghhpcloljeabGreatDoor.vs

namespace Go.Proofs.YtnpghhpcloljeabGreatDoor.ends
open Go.RowKit Go.WideShapes Go.ChangeShapes
section
variable {H : Type} {enc : TypeId × Value → H} {P : Program}
theorem post_of_below {f : Func} {s : ChangeSpec} {apart fresh handsOn again : Bool} {W W' : World} {args : Array Value} {v : Value} {ds gs : List (DataW H)} {before pa pv : List MemPlace}
    (hW : DataW.Whole enc P f.params.toList s.vars apart W args.toList ds gs before)
    (hres : ∀ (b : Nat) (sp : Nat → Bool) (hd : Bool), DataW.TrodAll enc P W' b sp hd f.resultTypes.toList (v.resultList f.resultTypes.size) (s.fn H (ds ++ gs)).results [])
    (hargs : ∀ sp : Nat → Bool, (∀ p ∈ before, sp p.block = true) → DataW.TrodAll enc P W' 0 sp true f.params.toList args.toList (s.fn H (ds ++ gs)).args pa)
    (hvars : ∀ sp : Nat → Bool, (∀ p ∈ before, sp p.block = true) → DataW.TrodVars enc P W' sp s.vars (s.fn H (ds ++ gs)).vars pv)
    (hps : before = pa ++ pv) (hb : Below W.heap.size W W')
    (hok : ∀ (j : Nat) (t : TypeId) (r : Value), f.resultTypes[j]? = some t → (v.resultList f.resultTypes.size)[j]? = some r → Value.okWide P W' .any 0 t r) :
    s.post enc P f apart fresh handsOn again W args v W' := by
  have hlt : ∀ p ∈ before, p.block < W.heap.size := fun p hp => hW.lt p hp
  have hold : ∀ p ∈ before, (fun b => decide (b < W.heap.size)) p.block = true := fun p hp => by simpa using hlt p hp
  refine ⟨ds, gs, before, [], pa, pv, hW, hres _ _ _, hargs _ hold, hvars _ hold, World.keptBut_mono (fun p hp => ⟨hp, ?_⟩) (hb.frame (· ∈ before)), fun _ => ?_⟩
  · rw [hps, List.mem_append] at hp
    exact Or.inr hp
  · obtain ⟨_, _, _, _, _, hz, hn⟩ := hW
    refine ⟨hok, _, _, ([] ++ pa) ++ pv, ⟨[] ++ pa, pv, trodAll_append (hargs _ (fun _ _ => rfl)) (hres _ _ _), hvars _ (fun _ _ => rfl), rfl, ?_, ?_⟩, ?_⟩
    · intro b off hp
      have hin : MemPlace.cell b off ∈ before := by rw [hps]; simpa using hp
      rw [hb.frozen (hlt _ hin)]
      exact hz b off hin
    · intro ha
      have := hn ha
      rw [hps] at this
      simpa using this
    · intro p hp _
      rw [hps]
      simpa using hp
end
theorem below_drewN {B : Nat} {a w : World} (h : Below B a w) (n : Nat) : Below B a (w.drewN n) := ⟨h.os, h.tape, h.output, h.size, h.block⟩
end Go.Proofs.YtnpghhpcloljeabGreatDoor.ends

namespace Go.Proofs.YtnpghhpcloljeabGreatDoor.vsh
open Go.RowKit
open reads base rowi hs
set_option linter.unusedVariables false
set_option linter.unusedSimpArgs false

set_option maxHeartbeats 4000000 in
theorem vhas_any (A : Option Addr) (n cap : Nat) (xs : List Int) (a : Int) (w : World) (hn : n ≤ 2000000) (hx : Hid (ints.IL w A n xs)) :
    Calls Tryz.prog 15 #[.slice A n cap, .int .i64 a] w fun e w' => e = .returned (.bool (mem xs a)) ∧ w = w' := by
  have hL : Hid (xs.length = n) := Lib.hid hx.out.1
  go_enter Tryz.func15, Tryz.ntmps15
  go_wp2_with fail
  go_loop [5] (fun i => ∃ k : Nat, k ≤ n ∧ i = .int .i64 k ∧ Hid ((xs.take k).all (fun x => !(x == a)) = true)) (fun i => n - (intOf i).toNat)
  case atStart => exact ⟨0, Nat.zero_le _, rfl, Lib.hid (by simp)⟩
  case round =>
    obtain ⟨k, hk, rfl, HI⟩ := hrel
    have hk0 : 0 ≤ (k : Int) := by omega
    by_cases h1 : k < n
    · have hki : (k : Int) < (n : Int) := by omega
      have hkd : decide (k < n) = true := by simpa using h1
      obtain ⟨x, hxk⟩ := at_lt hL.out h1
      obtain ⟨g, rfl, e0⟩ := hx.out.2 k x hxk
      have HK := Lib.hid hxk
      clear hxk
      by_cases he : x = a
      · have HF := Lib.hid (show mem xs a = true from mem_yes HK.out he)
        have hd2 : (x == a) = true := by simpa using he
        subst he
        go_wp2_with fail
        go_ret
        exact ⟨ret_bool HF.out.symm, rfl⟩
      · have HN := Lib.hid (all_take (p := fun x => !(x == a)) HK.out HI.out (by simpa using he))
        have hd2 : (x == a) = false := by simpa using he
        have hd3 : decide (x = a) = false := by simpa using he
        clear he
        go_wp2_with fail
        go_round
        case rel => exact ⟨k + 1, by omega, by go_num, HN⟩
        case measure => simp [intOf]; omega
    · have hkd : decide (k < n) = false := by simpa using h1
      obtain rfl : k = n := by omega
      have HF := Lib.hid (show mem xs a = false from mem_no (by rw [hL.out]; exact HI.out))
      clear h1
      go_wp2_with fail
      go_ret
      exact ⟨ret_bool HF.out.symm, rfl⟩
theorem vhas_is (A : Option Addr) (n cap : Nat) (xs : List Int) (a : Int) (t : Bool) (h : Hid (mem xs a = t)) (w : World) (hn : n ≤ 2000000) (hx : Hid (ints.IL w A n xs)) :
    Calls Tryz.prog 15 #[.slice A n cap, .int .i64 a] w fun e w' => e = .returned (.bool t) ∧ w = w' := by rw [← h.out]; exact vhas_any A n cap xs a w hn hx
set_option maxHeartbeats 4000000 in
theorem within_yes (A A' : Option Addr) (n c m c' : Nat) (xs ys : List Int) (w : World) (hn : n ≤ 2000000) (hm : m ≤ 2000000) (hx : Hid (ints.IL w A n xs)) (hy : Hid (ints.IL w A' m ys)) (hs : Hid (∀ x ∈ xs, mem ys x = true)) :
    Calls Tryz.prog 32 #[.slice A n c, .slice A' m c'] w fun e w' => e = .returned (.bool true) ∧ w = w' := by
  have hL : Hid (xs.length = n) := Lib.hid hx.out.1
  go_enter Tryz.func32, Tryz.ntmps32
  go_wp2_with fail
  go_loop [5] (fun i => ∃ k : Nat, k ≤ n ∧ i = .int .i64 k) (fun i => n - (intOf i).toNat)
  case atStart => exact ⟨0, Nat.zero_le _, rfl⟩
  case round =>
    obtain ⟨k, hk, rfl⟩ := hrel
    have hk0 : 0 ≤ (k : Int) := by omega
    by_cases h1 : k < n
    · have hki : (k : Int) < (n : Int) := by omega
      have hkd : decide (k < n) = true := by simpa using h1
      obtain ⟨x, hxk⟩ := at_lt hL.out h1
      obtain ⟨g, rfl, e0⟩ := hx.out.2 k x hxk
      have HM := Lib.hid (hs.out x (List.mem_of_getElem? hxk))
      clear hxk
      go_wp2_with fail
      refine (vhas_is A' m c' ys x true HM _ hm hy).mono ?_
      rintro e w' ⟨rfl, rfl⟩
      go_wp2_with fail
      go_round
      case rel => exact ⟨k + 1, by omega, by go_num⟩
      case measure => simp [intOf]; omega
    · have hkd : decide (k < n) = false := by simpa using h1
      go_wp2_with fail
      go_ret
      exact ⟨rfl, rfl⟩
end Go.Proofs.YtnpghhpcloljeabGreatDoor.vsh

namespace Go.Proofs.YtnpghhpcloljeabGreatDoor.opens
open Go.ChangeShapes Go.WideShapes Go.ChangeAt Go.RowKit
open curs
set_option linter.unusedVariables false
set_option maxRecDepth 100000

theorem byte_of (z : Int) (h : (Lit.int .u8 z).wf = true) : Value.int .u8 z = .int .u8 (((UInt8.ofNat z.toNat).toNat : Nat) : Int) := by
  have hx : 0 ≤ z ∧ z ≤ 255 := by simpa [Lit.wf, IntKind.min, IntKind.max, IntKind.signed, IntKind.bits] using h
  rw [UInt8.toNat_ofNat_of_lt' (by show z.toNat < 256; omega)]
  congr 1; omega

set_option maxRecDepth 100000 in
theorem opened {H : Type} {enc : TypeId × Value → H} {W : World} {base : Nat} {v : Value} {d : DataW H} {p : List MemPlace}
    (hv : Value.okWide Tryz.prog W .any base 22 v) (h : DataW.Trod enc Tryz.prog W 0 (fun _ => true) true 22 v d p) :
    ∃ (A : Option Addr) (n cap : Nat) (zs : List UInt8), v = .slice A n cap ∧ reads.Reads W W.heap.size 1 A n (bytesV zs) ∧ n ≤ maxLen := by
  obtain ⟨a0, len0, cap0, rfl⟩ := okWide_slice Tryz.underlying22 hv
  obtain ⟨fuel, hf⟩ := h
  rcases open_ints Tryz.underlying22 Tryz.underlying5 (by kernel_rfl) hf with ⟨hcs, _⟩ | ⟨x, l, c, zs, hcs, _, hl, hm, hz, _, hcell, hwz⟩
  · simp [Value.cells] at hcs
    obtain ⟨rfl, rfl, rfl⟩ := hcs
    exact ⟨none, 0, 0, [], rfl, reads.Reads.none_, by simp⟩
  · simp [Value.cells] at hcs
    obtain ⟨rfl, rfl, rfl⟩ := hcs
    have hz' : zs.length = cap0 := by simpa using hz
    refine ⟨some x, len0, cap0, (zs.take len0).map fun z => UInt8.ofNat z.toNat, rfl, ?_, by omega⟩
    refine ⟨by simp [bytesV]; omega, fun h0 => ⟨x, rfl, ?_, fun j u hu => ?_⟩⟩
    · have hc0 := hcell 0 (by omega)
      have hb : (x.add 0).block < W.heap.size := by
        rcases Nat.lt_or_ge (x.add 0).block W.heap.size with hlt | hge
        · exact hlt
        · simp [World.cell?, Array.getElem?_eq_none hge] at hc0
      rwa [reads.block_of_add] at hb
    · simp only [bytesV, List.getElem?_map, Option.map_eq_some_iff] at hu
      obtain ⟨y, ⟨z, hz1, rfl⟩, rfl⟩ := hu
      have hj : j < len0 := by have := (List.getElem?_eq_some_iff.1 hz1).1; simp at this; omega
      have hz2 : zs[j]? = some z := by rw [List.getElem?_take, if_pos hj] at hz1; exact hz1
      rw [hcell j (by omega), List.getD_eq_getElem?_getD, hz2]
      show some (Value.int .u8 z) = _
      rw [byte_of z (hwz z (List.mem_of_getElem? hz2))]
end Go.Proofs.YtnpghhpcloljeabGreatDoor.opens
