/-
  The exact laws' helpers at lists of ints as arguments: copies, comparisons, arguments opened.
  Conditions: none but those that a theorem names.
-/
import Derived.Test.YtiimegmaokfpgaaBase
import Derived.Test.YtiimegmaokfpgaaInA
import Derived.Test.YtiimegmaokfpgaaInts
import Derived.ProofKit
import Derived.OpenShut
import Derived.Deep.Slices
import Derived.Deep.Fields
namespace Go.Proofs.Ytiimegmaokfpgaa.ty
open Go.ChangeShapes Go.WideShapes Go.RowKit Go.Deep
open reads base
set_option linter.unusedVariables false
set_option linter.unusedSimpArgs false
set_option maxRecDepth 100000

theorem infoIn : (Try.prog.info? 3).map (fun i => (i.zero, i.size, i.bytes)) = some (some (.int .i64 0), 1, 8) := by kernel_rfl
/-- a list that came in -/
def ArgIn (w : World) (B : Nat) (A : Option Addr) (n : Nat) (xs : List Int) : Prop :=
  xs.length = n ∧ ∀ (k : Nat) x, xs[k]? = some x → ∃ ad, A = some ad ∧ ad.block < B ∧ w.cell? (ad.add k) = some (.int .i64 x)
theorem ArgIn.below {w w' : World} {B : Nat} {A : Option Addr} {n : Nat} {xs : List Int} (h : ArgIn w B A n xs) (hb : Below B w w') : ArgIn w' B A n xs :=
  ⟨h.1, fun k x hx => by
    obtain ⟨ad, e, hg, h0⟩ := h.2 k x hx
    exact ⟨ad, e, hg, (hb.cell (p := ad.add k) (by rw [block_of_add]; exact hg)).trans h0⟩⟩
theorem more_int {w : World} {B B' : Nat} {A : Option Addr} {n : Nat} {xs : List Int} (h : ArgIn w B A n xs) (hB : B ≤ B') : ArgIn w B' A n xs :=
  ⟨h.1, fun k x hx => by
    obtain ⟨ad, e, hg, h0⟩ := h.2 k x hx
    exact ⟨ad, e, by omega, h0⟩⟩
/-- the first k of a copy are laid -/
def FillIn (n k : Nat) (xs : List Int) (cs : Array Value) : Prop := cs.size = n * 1 ∧ ∀ (i : Nat) x, i < k → xs[i]? = some x → cs[i]? = some (.int .i64 x)
theorem FillIn.next {n k : Nat} {xs : List Int} {cs : Array Value} {x : Int} (h : FillIn n k xs cs) (hk : k < n) (hx : xs[k]? = some x) : FillIn n (k + 1) xs (cs.setIfInBounds k (.int .i64 x)) := by
  have hsz := h.1
  refine ⟨by simpa using hsz, fun i u hi hu => ?_⟩
  by_cases e : i = k
  · subst e
    obtain rfl : x = u := Option.some.inj (hx.symm.trans hu)
    simp only [Array.getElem?_setIfInBounds, if_true]
    rw [if_pos (by omega)]
  · have h0 := h.2 i u (by omega) hu
    simp only [Array.getElem?_setIfInBounds]
    rw [if_neg (by omega)]; exact h0
theorem FillIn.at_ {n : Nat} {xs : List Int} {cs : Array Value} {w : World} {g : Nat} (h : FillIn n n xs cs) (hl : xs.length = n) (hb : Blk w g 3 cs) : InAt w (g + 1) (some ⟨g, 0, none⟩) n xs :=
  ⟨hl, fun k x hx => by
    have hk : k < n := by have := (List.getElem?_eq_some_iff.1 hx).1; omega
    exact ⟨g, rfl, by omega, (hb.cell _).trans (h.2 k x hk hx)⟩⟩
/-- a copy that is laid whole, as a row of one's own -/
theorem fill_row {w : World} {base n g : Nat} {xs : List Int} {cs : Array Value} (h : Blk w g 3 cs) (hb : base ≤ g) (hn : n ≤ maxLen) (hf : FillIn n n xs cs) (hl : xs.length = n) : w.ownsRow base 3 1 (.slice (some ⟨g, 0, none⟩) n n) n (ints.intsV xs) := by
  have e : cs.toList = ints.intsV xs := by
    apply List.ext_getElem?
    intro i
    by_cases hi : i < n
    · obtain ⟨x, hx⟩ : ∃ x, xs[i]? = some x := ⟨_, List.getElem?_eq_getElem (by omega)⟩
      have := hf.2 i x hi hx
      rw [Array.getElem?_toList, this]; simp [ints.intsV, hx]
    · rw [List.getElem?_eq_none (by rw [Array.length_toList, hf.1]; omega), List.getElem?_eq_none (by rw [ints.intsV_len]; omega)]
  have := row_blk (base := base) h hb hn hf.1
  rwa [e] at this
/-- a copy of a list: a block of its own -/
def ToPIn (n : Nat) (xs : List Int) (w : World) (e : Ending) (w' : World) : Prop :=
  e = .returned (.slice (some ⟨w.heap.size, 0, none⟩) n n) ∧ (∃ cs, Blk w' w.heap.size 3 cs ∧ FillIn n n xs cs) ∧ Below w.heap.size w w'
set_option maxHeartbeats 4000000 in
theorem to_intS (A : Option Addr) (n cp : Nat) (xs : List Int) (w : World) (hn : n ≤ 1048576) (hr : Hid (ArgIn w w.heap.size A n xs)) : Calls Try.prog 45 #[.slice A n cp] w (ToPIn n xs w) := by
  obtain ⟨i0, hi0, hz0, hz1, hz2⟩ := info_parts infoIn
  obtain ⟨cs0, HC0⟩ : ∃ cs, Hid (cs = madeCells (Value.int .i64 0).cells (n * 1)) := ⟨_, Lib.hid rfl⟩
  have hmk : ∀ W : World, (Instr.makeSlice 32 (.int .i64 (n : Int)) (.int .i64 (n : Int))).run Try.prog W = .ok (.slice (some ⟨W.heap.size, 0, none⟩) n n) (W.alloc (.cells cs0 3)) := fun W => by
    have h := run_make_rowN (P := Try.prog) 32 3 i0 _ Try.underlying32 hi0 hz0 .i64 .i64 n n (Nat.le_refl _) (by rw [hz2]; omega) (by omega) W
    rw [h, hz1, HC0.out]
  have HF0 := Lib.hid (show FillIn n 0 xs cs0 from ⟨by rw [HC0.out, size_madeCells], fun i t hi => by omega⟩)
  have hL : Hid (xs.length = n) := Lib.hid hr.out.1
  clear HC0
  go_enter Try.func45, Try.ntmps45
  go_wp2_with fail
  clear hmk
  go_loopw [4] (fun i wr => ∃ (k : Nat) (cs : Array Value), k ≤ n ∧ i = .int .i64 k ∧ Hid (FillIn n k xs cs) ∧ Blk wr w.heap.size 3 cs ∧ Below w.heap.size w wr) (fun i _ => n - (intOf i).toNat)
  case atStart => exact ⟨0, cs0, Nat.zero_le _, rfl, HF0, Blk.new w _ _, (Below.refl _ _).alloc (Nat.le_refl _) _⟩
  case round =>
    obtain ⟨k, cs, hk, rfl, HF, hK, hB⟩ := hrel
    have HK := Lib.hid hK
    have HB := Lib.hid hB
    have hlt0 := hK.lt
    clear hK hB
    by_cases hlt : k < n
    · obtain ⟨t, htk⟩ : ∃ t, xs[k]? = some t := ⟨_, List.getElem?_eq_getElem (by rw [hL.out]; exact hlt)⟩
      obtain ⟨ad, rfl, had, h0⟩ := (hr.out.below HB.out).2 k t htk
      have HT := Lib.hid htk
      clear htk
      have hsz := HF.out.1
      have HQZ := Lib.hid hsz
      clear hsz
      have hki : (k : Int) < (n : Int) := by omega
      have hk0 : 0 ≤ (k : Int) := by omega
      have hkd : decide (k < n) = true := by simpa using hlt
      obtain ⟨u0, q0⟩ : ∃ u, wr.cell? ⟨w.heap.size, k, none⟩ = some u := ⟨_, (HK.out.cell _).trans (Array.getElem?_eq_getElem (by rw [HQZ.out]; omega))⟩
      have f0 := HK.out.frozen k
      go_wp2_with fail
      try go_quiet (fail)
      try go_region
      go_wp2_with fail
      go_roundw
      case rel => exact ⟨k + 1, _, by omega, by go_num, Lib.hid (HF.out.next hlt HT.out), HK.out.set_ k _, HB.out.setCell (Nat.le_refl _) _⟩
      case measure => simp [intOf]; omega
    · obtain rfl : k = n := by omega
      have hkd : decide (k < k) = false := by simp
      go_wp2_with fail
      go_ret
      exact ⟨rfl, ⟨cs, HK.out, HF.out⟩, HB.out⟩
theorem open_intS {H : Type} {enc : TypeId × Value → H} {w : World} {base : Nat} {v : Value} {d : DataW H} {p : List MemPlace}
    (hv : Value.okWide Try.prog w .any base 32 v) (h : DataW.Trod enc Try.prog w 0 (fun _ => true) true 32 v d p) :
    ∃ (A : Option Addr) (n cap : Nat) (xs : List Int), v = .slice A n cap ∧ ArgIn w w.heap.size A n xs ∧ n ≤ maxLen := by
  obtain ⟨a0, len0, cap0, rfl⟩ := okWide_slice Try.underlying32 hv
  obtain ⟨fuel, hf⟩ := h
  rcases open_ints Try.underlying32 Try.underlying3 (by kernel_rfl) hf with ⟨hcs, _⟩ | ⟨x, l, c, zs, hcs, _, hl, hm, hz, _, hcell, hwz⟩
  · simp [Value.cells] at hcs
    obtain ⟨rfl, rfl, rfl⟩ := hcs
    exact ⟨none, 0, 0, [], rfl, ⟨rfl, fun k t ht => by simp at ht⟩, by simp⟩
  · simp [Value.cells] at hcs
    obtain ⟨rfl, rfl, rfl⟩ := hcs
    have hz' : zs.length = cap0 := by simpa using hz
    refine ⟨some x, len0, cap0, zs.take len0, rfl, ⟨by simp; omega, fun k u hu => ?_⟩, by omega⟩
    have hk : k < len0 := by have := (List.getElem?_eq_some_iff.1 hu).1; simp at this; omega
    have hu2 : zs[k]? = some u := by rw [List.getElem?_take, if_pos hk] at hu; exact hu
    have hc0 := hcell k (by omega)
    have hb : (x.add k).block < w.heap.size := by
      rcases Nat.lt_or_ge (x.add k).block w.heap.size with hlt | hge
      · exact hlt
      · simp [World.cell?, Array.getElem?_eq_none hge] at hc0
    rw [block_of_add] at hb
    refine ⟨x, rfl, hb, ?_⟩
    rw [hc0, List.getD_eq_getElem?_getD, hu2]; rfl
theorem eq_intS (A A' : Option Addr) (n c c' : Nat) (xs : List Int) (w : World) (hn : n ≤ 2000000) (h : Hid (InAt w w.heap.size A n xs)) (h' : Hid (InAt w w.heap.size A' n xs)) :
    Calls Try.prog 46 #[.slice A n c, .slice A' n c'] w fun e w' => e = .returned (.bool true) ∧ Below w.heap.size w w' := by
  refine (ints.eq_any A A' n c c' xs w hn (Lib.hid h.out.il) (Lib.hid h'.out.il)).mono ?_
  rintro e w' ⟨rfl, m, rfl⟩
  exact ⟨rfl, drewN_below w m⟩
end Go.Proofs.Ytiimegmaokfpgaa.ty
