/-
  The exact laws' helpers at legs: copies, comparisons, sizes, marks, arguments opened.
  The model of the legs: which are valid, lists of them.
  Conditions: those that each theorem names.
-/
import Derived.Test.YtnpghhpcloljeabGreatDoorReadsq
import Derived.ProofKit
import Derived.OpenShut
import Derived.Deep.Slices
import Derived.Deep.Fields
namespace Go.Proofs.YtnpghhpcloljeabGreatDoor.ty
open Go.ChangeShapes Go.WideShapes Go.RowKit Go.Deep
open reads base
set_option linter.unusedVariables false
set_option linter.unusedSimpArgs false

/-- a leg -/
structure Lg where
  frm : Int
  to_ : Int
  tape : Int
  comp : Int
  slope : Int
/-- a list of them in memory, 5 cells an element, from the beginning of a block on -/
def LgAt (w : World) (B : Nat) (A : Option Addr) (n : Nat) (ts : List Lg) : Prop :=
  ts.length = n ∧ ∀ k t, ts[k]? = some t → ∃ g, A = some ⟨g, 0, none⟩ ∧ g < B ∧ w.cell? ⟨g, k * 5, none⟩ = some (.int .i64 t.frm) ∧ w.cell? ⟨g, k * 5 + 1, none⟩ = some (.int .i64 t.to_) ∧ w.cell? ⟨g, k * 5 + 2, none⟩ = some (.int .i64 t.tape) ∧ w.cell? ⟨g, k * 5 + 3, none⟩ = some (.int .i64 t.comp) ∧ w.cell? ⟨g, k * 5 + 4, none⟩ = some (.int .i64 t.slope)
theorem LgAt.below {w w' : World} {B : Nat} {A : Option Addr} {n : Nat} {ts : List Lg} (h : LgAt w B A n ts) (hb : Below B w w') : LgAt w' B A n ts :=
  ⟨h.1, fun k t ht => by
    obtain ⟨g, e, hg, h0, h1, h2, h3, h4⟩ := h.2 k t ht
    exact ⟨g, e, hg, (hb.cell (p := ⟨g, k * 5, none⟩) hg).trans h0, (hb.cell (p := ⟨g, k * 5 + 1, none⟩) hg).trans h1, (hb.cell (p := ⟨g, k * 5 + 2, none⟩) hg).trans h2, (hb.cell (p := ⟨g, k * 5 + 3, none⟩) hg).trans h3, (hb.cell (p := ⟨g, k * 5 + 4, none⟩) hg).trans h4⟩⟩
theorem LgAt.more {w : World} {B B' : Nat} {A : Option Addr} {n : Nat} {ts : List Lg} (h : LgAt w B A n ts) (hB : B ≤ B') : LgAt w B' A n ts :=
  ⟨h.1, fun k t ht => by
    obtain ⟨g, e, hg, h0⟩ := h.2 k t ht
    exact ⟨g, e, by omega, h0⟩⟩
theorem LgAt.step {w w' : World} {A : Option Addr} {n : Nat} {ts : List Lg} (h : LgAt w w.heap.size A n ts) (hb : Below w.heap.size w w') : LgAt w' w'.heap.size A n ts := (h.below hb).more hb.size
theorem LgAt.alloc {w : World} {A : Option Addr} {n : Nat} {ts : List Lg} (h : LgAt w w.heap.size A n ts) (o : Obj) : LgAt (w.alloc o) (w.alloc o).heap.size A n ts := h.step ((Below.refl _ _).alloc (Nat.le_refl _) _)
/-- an own row of them -/
def flatLg (ts : List Lg) : List Value := ts.flatMap fun t => [.int .i64 t.frm, .int .i64 t.to_, .int .i64 t.tape, .int .i64 t.comp, .int .i64 t.slope]
theorem flatLg_len (ts : List Lg) : (flatLg ts).length = ts.length * 5 := by
  induction ts with
  | nil => rfl
  | cons t ts ih =>
    have e : flatLg (t :: ts) = [.int .i64 t.frm, .int .i64 t.to_, .int .i64 t.tape, .int .i64 t.comp, .int .i64 t.slope] ++ flatLg ts := rfl
    rw [e, List.length_append, ih]
    simp only [List.length_cons, List.length_nil]
    omega
theorem flatLg_app (ts : List Lg) (t : Lg) : flatLg (ts ++ [t]) = flatLg ts ++ [.int .i64 t.frm, .int .i64 t.to_, .int .i64 t.tape, .int .i64 t.comp, .int .i64 t.slope] := by simp [flatLg]
theorem flatLg_at : ∀ (ts : List Lg) (k : Nat) (t : Lg), ts[k]? = some t → (flatLg ts)[k * 5]? = some (.int .i64 t.frm) ∧ (flatLg ts)[k * 5 + 1]? = some (.int .i64 t.to_) ∧ (flatLg ts)[k * 5 + 2]? = some (.int .i64 t.tape) ∧ (flatLg ts)[k * 5 + 3]? = some (.int .i64 t.comp) ∧ (flatLg ts)[k * 5 + 4]? = some (.int .i64 t.slope)
  | [], k, t, h => by simp at h
  | d :: ts, 0, t, h => by
    simp at h
    subst h
    exact ⟨rfl, rfl, rfl, rfl, rfl⟩
  | d :: ts, k + 1, t, h => by
    obtain ⟨k0, k1, k2, k3, k4⟩ := flatLg_at ts k t (by simpa using h)
    have e : flatLg (d :: ts) = .int .i64 d.frm :: .int .i64 d.to_ :: .int .i64 d.tape :: .int .i64 d.comp :: .int .i64 d.slope :: flatLg ts := rfl
    rw [e, show (k + 1) * 5 = k * 5 + 1 + 1 + 1 + 1 + 1 by omega, show k * 5 + 1 + 1 + 1 + 1 + 1 + 1 = (k * 5 + 1) + 1 + 1 + 1 + 1 + 1 by omega, show k * 5 + 1 + 1 + 1 + 1 + 1 + 2 = (k * 5 + 2) + 1 + 1 + 1 + 1 + 1 by omega, show k * 5 + 1 + 1 + 1 + 1 + 1 + 3 = (k * 5 + 3) + 1 + 1 + 1 + 1 + 1 by omega, show k * 5 + 1 + 1 + 1 + 1 + 1 + 4 = (k * 5 + 4) + 1 + 1 + 1 + 1 + 1 by omega]
    exact ⟨by simpa using k0, by simpa using k1, by simpa using k2, by simpa using k3, by simpa using k4⟩
theorem own_Lg {w : World} {base c n : Nat} {e : TypeId} {A : Option Addr} {ts : List Lg} (hn : ts.length = n) (h : w.ownsRow base e 5 (.slice A n c) n (flatLg ts)) : LgAt w w.heap.size A n ts := by
  refine ⟨hn, fun k d hd => ?_⟩
  have hk : k < ts.length := (List.getElem?_eq_some_iff.1 hd).1
  obtain ⟨g, cap, hv, -, hg⟩ := h.form (by omega)
  injection hv with hA _ hc
  subst hA hc
  obtain ⟨f0, f1, f2, f3, f4⟩ := flatLg_at ts k d hd
  exact ⟨g, rfl, hg, (h.cellAt (k * 5) (by omega)).trans f0, (h.cellAt (k * 5 + 1) (by omega)).trans f1, (h.cellAt (k * 5 + 2) (by omega)).trans f2, (h.cellAt (k * 5 + 3) (by omega)).trans f3, (h.cellAt (k * 5 + 4) (by omega)).trans f4⟩
theorem infoLg : (Tryz.prog.info? 87).map (fun i => (i.zero, i.size, i.bytes)) = some (some (.agg #[.int .i64 0, .int .i64 0, .int .i64 0, .int .i64 0, .int .i64 0]), 5, 40) := by kernel_rfl
/-- a list that came in, 5 cells an element -/
def ArgLg (w : World) (B : Nat) (A : Option Addr) (n : Nat) (ts : List Lg) : Prop :=
  ts.length = n ∧ ∀ k t, ts[k]? = some t → ∃ ad, A = some ad ∧ ad.block < B ∧ w.cell? (ad.add (k * 5)) = some (.int .i64 t.frm) ∧ w.cell? (ad.add (k * 5 + 1)) = some (.int .i64 t.to_) ∧ w.cell? (ad.add (k * 5 + 2)) = some (.int .i64 t.tape) ∧ w.cell? (ad.add (k * 5 + 3)) = some (.int .i64 t.comp) ∧ w.cell? (ad.add (k * 5 + 4)) = some (.int .i64 t.slope)
theorem ArgLg.below {w w' : World} {B : Nat} {A : Option Addr} {n : Nat} {ts : List Lg} (h : ArgLg w B A n ts) (hb : Below B w w') : ArgLg w' B A n ts :=
  ⟨h.1, fun k t ht => by
    obtain ⟨ad, e, hg, h0, h1, h2, h3, h4⟩ := h.2 k t ht
    exact ⟨ad, e, hg, (hb.cell (p := ad.add (k * 5)) (by rw [block_of_add]; exact hg)).trans h0, (hb.cell (p := ad.add (k * 5 + 1)) (by rw [block_of_add]; exact hg)).trans h1, (hb.cell (p := ad.add (k * 5 + 2)) (by rw [block_of_add]; exact hg)).trans h2, (hb.cell (p := ad.add (k * 5 + 3)) (by rw [block_of_add]; exact hg)).trans h3, (hb.cell (p := ad.add (k * 5 + 4)) (by rw [block_of_add]; exact hg)).trans h4⟩⟩
theorem more_leg {w : World} {B B' : Nat} {A : Option Addr} {n : Nat} {ts : List Lg} (h : ArgLg w B A n ts) (hB : B ≤ B') : ArgLg w B' A n ts :=
  ⟨h.1, fun k t ht => by
    obtain ⟨ad, e, hg, h0⟩ := h.2 k t ht
    exact ⟨ad, e, by omega, h0⟩⟩
/-- the first k of a copy are laid -/
def FillLg (n k : Nat) (ts : List Lg) (cs : Array Value) : Prop := cs.size = n * 5 ∧ ∀ i t, i < k → ts[i]? = some t → cs[i * 5]? = some (.int .i64 t.frm) ∧ cs[i * 5 + 1]? = some (.int .i64 t.to_) ∧ cs[i * 5 + 2]? = some (.int .i64 t.tape) ∧ cs[i * 5 + 3]? = some (.int .i64 t.comp) ∧ cs[i * 5 + 4]? = some (.int .i64 t.slope)
theorem FillLg.next {n k : Nat} {ts : List Lg} {cs : Array Value} {t : Lg} (h : FillLg n k ts cs) (hk : k < n) (ht : ts[k]? = some t) : FillLg n (k + 1) ts (((((cs.setIfInBounds (k * 5) (.int .i64 t.frm)).setIfInBounds (k * 5 + 1) (.int .i64 t.to_)).setIfInBounds (k * 5 + 2) (.int .i64 t.tape)).setIfInBounds (k * 5 + 3) (.int .i64 t.comp)).setIfInBounds (k * 5 + 4) (.int .i64 t.slope)) := by
  have hsz := h.1
  refine ⟨by simpa using hsz, fun i u hi hu => ?_⟩
  by_cases e : i = k
  · subst e
    obtain rfl : t = u := Option.some.inj (ht.symm.trans hu)
    refine ⟨?_, ?_, ?_, ?_, ?_⟩ <;> (simp only [Array.getElem?_setIfInBounds, Array.size_setIfInBounds, if_true]; repeat' split) <;> first | rfl | (exfalso; omega)
  · obtain ⟨h0, h1, h2, h3, h4⟩ := h.2 i u (by omega) hu
    refine ⟨?_, ?_, ?_, ?_, ?_⟩ <;> (simp only [Array.getElem?_setIfInBounds, Array.size_setIfInBounds]; repeat' split) <;> first | assumption | (exfalso; omega)
theorem FillLg.at_ {n : Nat} {ts : List Lg} {cs : Array Value} {w : World} {g : Nat} (h : FillLg n n ts cs) (hl : ts.length = n) (hb : Blk w g 87 cs) : LgAt w (g + 1) (some ⟨g, 0, none⟩) n ts :=
  ⟨hl, fun k t ht => by
    have hk : k < n := by have := (List.getElem?_eq_some_iff.1 ht).1; omega
    obtain ⟨h0, h1, h2, h3, h4⟩ := h.2 k t hk ht
    exact ⟨g, rfl, by omega, (hb.cell _).trans h0, (hb.cell _).trans h1, (hb.cell _).trans h2, (hb.cell _).trans h3, (hb.cell _).trans h4⟩⟩
/-- a copy of a list: a block of its own -/
def ToPLg (n : Nat) (ts : List Lg) (w : World) (e : Ending) (w' : World) : Prop :=
  e = .returned (.slice (some ⟨w.heap.size, 0, none⟩) n n) ∧ (∃ cs, Blk w' w.heap.size 87 cs ∧ FillLg n n ts cs) ∧ Below w.heap.size w w'
end Go.Proofs.YtnpghhpcloljeabGreatDoor.ty

namespace Go.Proofs.YtnpghhpcloljeabGreatDoor.lg
open Go.RowKit
open reads base ty inn
set_option linter.unusedVariables false
set_option linter.unusedSimpArgs false

theorem station_is (x : Int) (t : Bool) (h : Hid (btw 0 x 7 = t)) (w : World) : Calls Tryz.prog 163 #[.int .i64 x] w fun e w' => e = .returned (.bool t) ∧ w = w' := by
  go_enter Tryz.func163, Tryz.ntmps163
  go_wp2_with fail
  refine (in_is _ _ _ t h _).mono ?_
  rintro e w' ⟨rfl, rfl⟩
  go_wp2_with fail
  go_ret
  exact ⟨rfl, rfl⟩
theorem bearing_is (x : Int) (t : Bool) (h : Hid (btw 0 x 359 = t)) (w : World) : Calls Tryz.prog 164 #[.int .i64 x] w fun e w' => e = .returned (.bool t) ∧ w = w' := by
  go_enter Tryz.func164, Tryz.ntmps164
  go_wp2_with fail
  refine (in_is _ _ _ t h _).mono ?_
  rintro e w' ⟨rfl, rfl⟩
  go_wp2_with fail
  go_ret
  exact ⟨rfl, rfl⟩
/-- a valid leg -/
def okLg (x : Lg) : Bool := btw 0 x.frm 7 && btw 0 x.to_ 7 && (x.frm != x.to_) && btw 1 x.tape 500 && btw 0 x.comp 359 && btw (-90) x.slope 90
theorem okLg_lim {x : Lg} (h : okLg x = true) : (0 ≤ x.frm ∧ x.frm ≤ 7) ∧ (0 ≤ x.to_ ∧ x.to_ ≤ 7) ∧ ¬ x.frm = x.to_ ∧ (1 ≤ x.tape ∧ x.tape ≤ 500) ∧ (0 ≤ x.comp ∧ x.comp ≤ 359) ∧ (-90 ≤ x.slope ∧ x.slope ≤ 90) := by
  simp only [okLg, Bool.and_eq_true, bne_iff_ne, ne_eq] at h
  obtain ⟨⟨⟨⟨⟨a, b⟩, c⟩, d⟩, e⟩, f⟩ := h
  exact ⟨btw_yes a, btw_yes b, c, btw_yes d, btw_yes e, btw_yes f⟩
theorem okLg_mk {x : Lg} (h : (0 ≤ x.frm ∧ x.frm ≤ 7) ∧ (0 ≤ x.to_ ∧ x.to_ ≤ 7) ∧ ¬ x.frm = x.to_ ∧ (1 ≤ x.tape ∧ x.tape ≤ 500) ∧ (0 ≤ x.comp ∧ x.comp ≤ 359) ∧ (-90 ≤ x.slope ∧ x.slope ≤ 90)) : okLg x = true := by
  obtain ⟨a, b, c, d, e, f⟩ := h
  simp only [okLg, Bool.and_eq_true, bne_iff_ne, ne_eq]
  exact ⟨⟨⟨⟨⟨btw_mk a.1 a.2, btw_mk b.1 b.2⟩, c⟩, btw_mk d.1 d.2⟩, btw_mk e.1 e.2⟩, btw_mk f.1 f.2⟩
set_option maxHeartbeats 4000000 in
set_option maxRecDepth 100000 in
theorem leg_any (x : Lg) (w : World) : Calls Tryz.prog 136 #[.agg #[.int .i64 x.frm, .int .i64 x.to_, .int .i64 x.tape, .int .i64 x.comp, .int .i64 x.slope]] w (BPost (okLg x) w) := by
  obtain ⟨t0, H0⟩ : ∃ t, Hid (btw 0 x.frm 7 = t) := ⟨_, Lib.hid rfl⟩
  obtain ⟨t1, H1⟩ : ∃ t, Hid (btw 0 x.to_ 7 = t) := ⟨_, Lib.hid rfl⟩
  obtain ⟨t2, h2⟩ : ∃ t, (x.frm != x.to_) = t := ⟨_, rfl⟩
  obtain ⟨t3, H3⟩ : ∃ t, Hid (btw 1 x.tape 500 = t) := ⟨_, Lib.hid rfl⟩
  obtain ⟨t4, H4⟩ : ∃ t, Hid (btw 0 x.comp 359 = t) := ⟨_, Lib.hid rfl⟩
  obtain ⟨t5, H5⟩ : ∃ t, Hid (btw (-90) x.slope 90 = t) := ⟨_, Lib.hid rfl⟩
  have HA := Lib.hid (show okLg x = (t0 && t1 && t2 && t3 && t4 && t5) by unfold okLg; rw [H0.out, H1.out, h2, H3.out, H4.out, H5.out])
  go_enter Tryz.func136, Tryz.ntmps136
  go_wp2_with fail
  refine (station_is _ t0 H0 _).mono ?_
  rintro e w' ⟨rfl, rfl⟩
  cases t0
  · go_wp2_with fail
    go_ret
    exact ⟨by rw [HA.out]; rfl, (Below.refl w.heap.size w).alloc (Nat.le_refl _) _⟩
  go_wp2_with fail
  refine (station_is _ t1 H1 _).mono ?_
  rintro e w' ⟨rfl, rfl⟩
  cases t1
  · go_wp2_with fail
    go_ret
    exact ⟨by rw [HA.out]; rfl, (Below.refl w.heap.size w).alloc (Nat.le_refl _) _⟩
  cases t2
  · go_wp2_with fail
    go_ret
    exact ⟨by rw [HA.out]; rfl, (Below.refl w.heap.size w).alloc (Nat.le_refl _) _⟩
  go_wp2_with fail
  refine (in_is _ _ _ t3 H3 _).mono ?_
  rintro e w' ⟨rfl, rfl⟩
  cases t3
  · go_wp2_with fail
    go_ret
    exact ⟨by rw [HA.out]; rfl, (Below.refl w.heap.size w).alloc (Nat.le_refl _) _⟩
  go_wp2_with fail
  refine (bearing_is _ t4 H4 _).mono ?_
  rintro e w' ⟨rfl, rfl⟩
  cases t4
  · go_wp2_with fail
    go_ret
    exact ⟨by rw [HA.out]; rfl, (Below.refl w.heap.size w).alloc (Nat.le_refl _) _⟩
  go_wp2_with fail
  refine (in_is _ _ _ t5 H5 _).mono ?_
  rintro e w' ⟨rfl, rfl⟩
  cases t5
  · go_wp2_with fail
    go_ret
    exact ⟨by rw [HA.out]; rfl, (Below.refl w.heap.size w).alloc (Nat.le_refl _) _⟩
  go_wp2_with fail
  go_ret
  exact ⟨by rw [HA.out]; rfl, (Below.refl w.heap.size w).alloc (Nat.le_refl _) _⟩
theorem leg_is (x : Lg) (t : Bool) (h : Hid (okLg x = t)) (w : World) : Calls Tryz.prog 136 #[.agg #[.int .i64 x.frm, .int .i64 x.to_, .int .i64 x.tape, .int .i64 x.comp, .int .i64 x.slope]] w (BPost t w) := by rw [← h.out]; exact leg_any x w
/-- legs -/
def goodLg (ts : List Lg) : Bool := ts.all okLg && decide (ts.length ≤ 12)
theorem goodLg_len {ts : List Lg} (h : goodLg ts = true) : ts.length ≤ 12 := by simp only [goodLg, Bool.and_eq_true, decide_eq_true_eq] at h; exact h.2
theorem goodLg_all {ts : List Lg} (h : goodLg ts = true) : ∀ t ∈ ts, okLg t = true := by
  simp only [goodLg, Bool.and_eq_true, List.all_eq_true] at h
  exact h.1
theorem goodLg_at {ts : List Lg} {k : Nat} {t : Lg} (h : goodLg ts = true) (hk : ts[k]? = some t) : okLg t = true := by
  simp only [goodLg, Bool.and_eq_true, List.all_eq_true] at h
  exact h.1 t (List.mem_of_getElem? hk)
set_option maxHeartbeats 4000000 in
set_option maxRecDepth 100000 in
theorem legs_any (A : Option Addr) (n cap : Nat) (ts : List Lg) (w : World) (hn : n ≤ 2000000) (hts : Hid (LgAt w w.heap.size A n ts)) :
    Calls Tryz.prog 93 #[.slice A n cap] w (BPost (goodLg ts) w) := by
  have hL : Hid (ts.length = n) := Lib.hid hts.out.1
  go_enter Tryz.func93, Tryz.ntmps93
  go_wp2_with fail
  go_loopw [3] (fun i wr => ∃ k : Nat, k ≤ n ∧ i = .int .i64 k ∧ Hid ((ts.take k).all okLg = true) ∧ Below w.heap.size w wr) (fun i _ => n - (intOf i).toNat)
  case atStart => exact ⟨0, Nat.zero_le _, rfl, Lib.hid (by simp), Below.refl _ _⟩
  case round =>
    obtain ⟨k, hk, rfl, HI, hB⟩ := hrel
    have HB := Lib.hid hB
    clear hB
    by_cases hlt : k < n
    · obtain ⟨t, htk⟩ := at_lt hL.out hlt
      obtain ⟨g, rfl, hg, h0, h1, h2, h3, h4⟩ := (hts.out.below HB.out).2 k t htk
      have HK := Lib.hid htk
      clear htk
      have hki : (k : Int) < (n : Int) := by omega
      have hk0 : 0 ≤ (k : Int) := by omega
      have hkd : decide (k < n) = true := by simpa using hlt
      cases ot : okLg t
      · have OT := Lib.hid ot
        have HF := Lib.hid (show goodLg ts = false by unfold goodLg; rw [all_no HK.out ot]; rfl)
        clear ot
        go_wp2_with fail
        refine (leg_is t false OT _).mono ?_
        rintro e w1 ⟨rfl, b1⟩
        have HS := Lib.hid (HB.out.trans (b1.mono HB.out.size))
        clear b1
        go_wp2_with fail
        go_ret
        exact ⟨ret_bool HF.out.symm, HS.out⟩
      · have OT := Lib.hid ot
        have HN := Lib.hid (all_take HK.out HI.out ot)
        clear ot
        go_wp2_with fail
        refine (leg_is t true OT _).mono ?_
        rintro e w1 ⟨rfl, b1⟩
        have HS := Lib.hid (HB.out.trans (b1.mono HB.out.size))
        clear b1
        go_wp2_with fail
        go_roundw
        case rel => exact ⟨k + 1, by omega, by go_num, HN, HS.out⟩
        case measure => simp [intOf]; omega
    · have hkd : decide (k < n) = false := by simpa using hlt
      obtain rfl : k = n := by omega
      have HF := Lib.hid (show goodLg ts = decide (k ≤ 12) by unfold goodLg; rw [hL.out, show ts.all okLg = true by have := HI.out; rwa [List.take_of_length_le (by rw [hL.out]; omega)] at this]; rfl)
      clear hlt
      by_cases h8 : k ≤ 12
      · have d8 : decide (k ≤ 12) = true := by simpa using h8
        have d8' : decide ((k : Int) ≤ 12) = true := by simp; omega
        rw [d8] at HF
        go_wp2_with fail
        go_ret
        exact ⟨ret_bool HF.out.symm, HB.out⟩
      · have d8 : decide (k ≤ 12) = false := by simpa using h8
        have d8' : decide ((k : Int) ≤ 12) = false := by simp; omega
        rw [d8] at HF
        go_wp2_with fail
        go_ret
        exact ⟨ret_bool HF.out.symm, HB.out⟩
theorem legs_is (A : Option Addr) (n cap : Nat) (ts : List Lg) (t : Bool) (w : World) (hn : n ≤ 2000000) (hts : Hid (LgAt w w.heap.size A n ts)) (h : Hid (goodLg ts = t)) :
    Calls Tryz.prog 93 #[.slice A n cap] w (BPost t w) := by rw [← h.out]; exact legs_any A n cap ts w hn hts
end Go.Proofs.YtnpghhpcloljeabGreatDoor.lg
