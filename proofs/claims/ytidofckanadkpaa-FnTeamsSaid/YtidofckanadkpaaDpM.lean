/-
  Drawn people: what is live while they are drawn.
  The drawn people.
  Drawn teams and skills, and the draws of this chapter.
  Conditions: those that each theorem names.
-/
import Derived.Test.YtidofckanadkpaaTyPs
import Derived.Test.YtidofckanadkpaaCurE
import Derived.Test.YtidofckanadkpaaCurO
import Derived.Laws.OwnMore
import Derived.Deep.DeepCutAuto
import Derived.Deep.RegionHeld3
import Derived.Deep.AppendLies
import Derived.OwnWalk
import Derived.Test.YtidofckanadkpaaRowI
namespace Go.Proofs.Ytidofckanadkpaa.dps
open Go.RowKit
open reads base curs curd cure ty
set_option linter.unusedVariables false
set_option linter.unusedSimpArgs false

/-- what a drawn person is like -/
def okN (t : Ps) : Prop := t.name.size ≤ 100
/-- a list in the making: the cursor, the list's own block -/
def GS (w : World) (B b k : Nat) (A : Option Addr) (n cap : Nat) (zs : List UInt8) (v : Value) (ts : List Ps) (u : World) : Prop :=
  Cur u B b k A n cap zs ∧ w.grownBy u (some b) ∧ u.ownsRow w.heap.size 41 4 v ts.length (flatPs ts) ∧ (∀ t ∈ ts, okN t) ∧ b < w.heap.size ∧ B ≤ w.heap.size
theorem flatPs_set (t : Ps) : ∀ (ts : List Ps) (i : Nat), i < ts.length → (((((flatPs ts).set (i * 4) (.int .i64 t.id)).set (i * 4 + 1) (.string t.name)).set (i * 4 + 2) (.int .i64 t.skills)).set (i * 4 + 3) (.int .i64 t.trips)) = flatPs (ts.set i t)
  | [], i, h => by simp at h
  | d :: ts, 0, h => by simp [flatPs]
  | d :: ts, i + 1, h => by
    have ih := flatPs_set t ts i (by simpa using h)
    have e : flatPs (d :: ts) = .int .i64 d.id :: .string d.name :: .int .i64 d.skills :: .int .i64 d.trips :: flatPs ts := rfl
    have e2 : flatPs ((d :: ts).set (i + 1) t) = .int .i64 d.id :: .string d.name :: .int .i64 d.skills :: .int .i64 d.trips :: flatPs (ts.set i t) := rfl
    rw [e2, ← ih, e, show (i + 1) * 4 = i * 4 + 1 + 1 + 1 + 1 by omega, show i * 4 + 1 + 1 + 1 + 1 + 1 = (i * 4 + 1) + 1 + 1 + 1 + 1 by omega, show i * 4 + 1 + 1 + 1 + 1 + 2 = (i * 4 + 2) + 1 + 1 + 1 + 1 by omega, show i * 4 + 1 + 1 + 1 + 1 + 3 = (i * 4 + 3) + 1 + 1 + 1 + 1 by omega]
    simp only [List.set_cons_succ]
section
variable {w u u' : World} {B b k k' : Nat} {A : Option Addr} {n cap : Nat} {zs : List UInt8} {v v' : Value} {ts : List Ps} {g L c i : Nat}
theorem GS.step (h : GS w B b k A n cap zs v ts u) (hC : Cur u' B b k' A n cap zs) (hg : u.grownBy u' (some b)) : GS w B b k' A n cap zs v ts u' :=
  ⟨hC, h.2.1.trans hg, own_step h.2.2.1 hg h.2.2.2.2.1, h.2.2.2⟩
theorem GS.alloc (h : GS w B b k A n cap zs v ts u) (o : Obj) : GS w B b k A n cap zs v ts (u.alloc o) :=
  ⟨cur_alloc h.1 (by have := h.2.1.size; have := h.2.2.2.2.2; omega) o, h.2.1.trans (World.grownBy_alloc u o (some b)), h.2.2.1.alloc o, h.2.2.2⟩
theorem GS.drew (h : GS w B b k A n cap zs v ts u) : GS w B b k A n cap zs v ts u.drew :=
  ⟨cur_below h.1 (Below.refl _ _).drew, ⟨h.2.1.os, h.2.1.tape, h.2.1.output, h.2.1.size, h.2.1.block⟩, row_below h.2.2.1 (Below.refl _ _).drew, h.2.2.2⟩
theorem GS.more (h : GS w B b k A n cap zs v ts u) (hk : k ≤ k') : GS w B b k' A n cap zs v ts u := ⟨cur_more h.1 k' hk, h.2⟩
theorem GS.app (h : GS w B b k A n cap zs v ts u) {t : Ps} (hok : okN t) (ho : u'.ownsRow w.heap.size 41 4 v' (ts.length + 1) (flatPs ts ++ [.int .i64 t.id, .string t.name, .int .i64 t.skills, .int .i64 t.trips])) (hg : u.grownBy u' v.ownBlock) : GS w B b k A n cap zs v' (ts ++ [t]) u' := by
  obtain ⟨h1, h2, h3, h4, h5, h6⟩ := h
  have hlo : ∀ g, v.ownBlock = some g → w.heap.size ≤ g := fun g e => (h3.lt g e).1
  obtain ⟨c1, c2, c3, pos, sd, c4, c5, c6, c7⟩ := h1
  have hs := h2.size
  refine ⟨⟨c1, c2.grown hg (by omega) (fun g e => by have := hlo g e; omega), c3, pos, sd, c4, c5, c6, c7.grown hg (fun e => by have := hlo _ e.symm; omega)⟩,
    ⟨hg.os.trans h2.os, hg.tape.trans h2.tape, hg.output.trans h2.output, Nat.le_trans h2.size hg.size, fun i hi hne => (hg.block i (by omega) (fun e => by have := hlo _ e.symm; omega)).trans (h2.block i hi hne)⟩, ?_, ?_, h5, h6⟩
  · rw [List.length_append, List.length_singleton, flatPs_app]; exact ho
  · intro x hx
    rcases List.mem_append.1 hx with q | q
    · exact h4 x q
    · rw [List.mem_singleton.1 q]; exact hok
theorem GS.put (h : GS w B b k A n cap zs (.slice (some ⟨g, 0, none⟩) L c) ts u) (hL : ts.length = L) (hi : i < L) {t : Ps} (hok : okN t) : GS w B b k A n cap zs (.slice (some ⟨g, 0, none⟩) L c) (ts.set i t) ((((u.setCell ⟨g, i * 4, none⟩ (.int .i64 t.id)).setCell ⟨g, i * 4 + 1, none⟩ (.string t.name)).setCell ⟨g, i * 4 + 2, none⟩ (.int .i64 t.skills)).setCell ⟨g, i * 4 + 3, none⟩ (.int .i64 t.trips)) := by
  obtain ⟨h1, h2, h3, h4, h5, h6⟩ := h
  rw [hL] at h3
  have hg := (h3.lt g rfl).1
  have hne : b ≠ g := by omega
  have hB : B ≤ g := by omega
  have hw : w.heap.size ≤ g := hg
  refine ⟨(cur_set (cur_set (cur_set (cur_set h1 hne hB _) hne hB _) hne hB _) hne hB _), (cure.grown_set (cure.grown_set (cure.grown_set (cure.grown_set h2 hw _) hw _) hw _) hw _), ?_, ?_, h5, h6⟩
  · rw [List.length_set, hL, ← flatPs_set t ts i (by omega)]
    exact ((((h3.stored (i * 4) (.int .i64 t.id)).1.stored (i * 4 + 1) (.string t.name)).1.stored (i * 4 + 2) (.int .i64 t.skills)).1.stored (i * 4 + 3) (.int .i64 t.trips)).1
  · intro x hx
    rcases List.mem_or_eq_of_mem_set hx with q | q
    · exact h4 x q
    · rw [q]; exact hok
/-- a block beside the list is written -/
theorem GS.far (h : GS w B b k A n cap zs v ts u) {X j : Nat} {y : Value} (hX : w.heap.size ≤ X) (hne : v.ownBlock ≠ some X) : GS w B b k A n cap zs v ts (u.setCell ⟨X, j, none⟩ y) := by
  obtain ⟨h1, h2, h3, h4, h5, h6⟩ := h
  exact ⟨cur_set h1 (by show b ≠ X; omega) (by show B ≤ X; omega) _, cure.grown_set h2 hX _, h3.kept (row := some X) (grown_cell ⟨rfl, rfl, rfl, Nat.le_refl _, fun _ _ _ => rfl⟩ _ _) (.inr hne), h4, h5, h6⟩
end
/-- the names that are drawn -/
def namesL : List ByteArray := [⟨#[97, 110, 110]⟩, ⟨#[98, 111]⟩, ⟨#[99, 121]⟩, ⟨#[100, 105]⟩, ⟨#[101, 118, 101]⟩, ⟨#[102, 97, 121]⟩, ⟨#[103, 117, 115]⟩, ⟨#[104, 97, 108]⟩, ⟨#[105, 100, 97]⟩, ⟨#[106, 111]⟩]
def namesC : Array Value := (curo.strs namesL).toArray
theorem name_at {j : Nat} (hj : j < 10) : ∃ nm : ByteArray, namesC[j]? = some (.string nm) ∧ nm.size ≤ 100 := by
  have hl : namesL.length = 10 := rfl
  have hlt : j < namesL.length := by omega
  have hall : ∀ p ∈ namesL, p.size ≤ 100 := by decide
  refine ⟨namesL[j], ?_, hall _ (List.getElem_mem hlt)⟩
  simp [namesC, curo.strs, List.getElem?_eq_getElem hlt]
/-- a list in the making, beside the names -/
def PS (w : World) (B b k : Nat) (A : Option Addr) (n cap : Nat) (zs : List UInt8) (NB : Nat) (v : Value) (ts : List Ps) (u : World) : Prop :=
  GS w B b k A n cap zs v ts u ∧ Blk u NB 9 namesC ∧ NB ≠ b
section
variable {w u u' : World} {B b k k' : Nat} {A : Option Addr} {n cap : Nat} {zs : List UInt8} {v v' : Value} {ts : List Ps} {NB j : Nat}
theorem PS.step (h : PS w B b k A n cap zs NB v ts u) (hC : Cur u' B b k' A n cap zs) (hg : u.grownBy u' (some b)) : PS w B b k' A n cap zs NB v ts u' :=
  ⟨h.1.step hC hg, h.2.1.grown hg (by intro e; injection e with e; exact h.2.2 e), h.2.2⟩
theorem PS.alloc (h : PS w B b k A n cap zs NB v ts u) (o : Obj) : PS w B b k A n cap zs NB v ts (u.alloc o) := ⟨h.1.alloc o, h.2.1.alloc o, h.2.2⟩
theorem PS.drew (h : PS w B b k A n cap zs NB v ts u) : PS w B b k A n cap zs NB v ts u.drew := ⟨h.1.drew, h.2.1.below (Below.refl _ _).drew h.2.1.lt, h.2.2⟩
theorem PS.more (h : PS w B b k A n cap zs NB v ts u) (hk : k ≤ k') : PS w B b k' A n cap zs NB v ts u := ⟨h.1.more hk, h.2⟩
theorem PS.app (h : PS w B b k A n cap zs NB v ts u) {t : Ps} (hok : okN t) (ho : u'.ownsRow w.heap.size 41 4 v' (ts.length + 1) (flatPs ts ++ [.int .i64 t.id, .string t.name, .int .i64 t.skills, .int .i64 t.trips])) (hg : u.grownBy u' v.ownBlock) : PS w B b k A n cap zs NB v' (ts ++ [t]) u' :=
  ⟨h.1.app hok ho hg, h.2.1.grown hg (fun e => own_blk_ne (e := 41) h.1.2.2.1 (t := 9) h.2.1 (by decide) e.symm), h.2.2⟩
/-- what the worlds of the append's region keep: one name -/
theorem PS.name (h : PS w B b k A n cap zs NB v ts u) {nm : ByteArray} (hn : namesC[j]? = some (.string nm)) : u.cell? ⟨NB, j, none⟩ = some (.string nm) := by rw [h.2.1.cell]; exact hn
end
/-- a list with one person taken out into a box -/
def XS (w : World) (B b k : Nat) (A : Option Addr) (n cap : Nat) (zs : List UInt8) (g L c X : Nat) (t : Ps) (ts : List Ps) (u : World) : Prop :=
  GS w B b k A n cap zs (.slice (some ⟨g, 0, none⟩) L c) ts u ∧ Blk u X 41 #[.int .i64 t.id, .string t.name, .int .i64 t.skills, .int .i64 t.trips] ∧ X ≠ b ∧ g < X
section
variable {w u u' : World} {B b k k' : Nat} {A : Option Addr} {n cap : Nat} {zs : List UInt8} {ts : List Ps} {g L c X i : Nat} {t : Ps}
theorem XS.step (h : XS w B b k A n cap zs g L c X t ts u) (hC : Cur u' B b k' A n cap zs) (hg : u.grownBy u' (some b)) : XS w B b k' A n cap zs g L c X t ts u' :=
  ⟨h.1.step hC hg, h.2.1.grown hg (by intro e; injection e with e; exact h.2.2.1 e), h.2.2⟩
theorem XS.set (h : XS w B b k A n cap zs g L c X t ts u) (j : Nat) (y : Value) (t' : Ps) (e : (#[.int .i64 t.id, .string t.name, .int .i64 t.skills, .int .i64 t.trips] : Array Value).setIfInBounds j y = #[.int .i64 t'.id, .string t'.name, .int .i64 t'.skills, .int .i64 t'.trips]) : XS w B b k A n cap zs g L c X t' ts (u.setCell ⟨X, j, none⟩ y) := by
  refine ⟨h.1.far (by have := (h.1.2.2.1.lt g rfl).1; have := h.2.2.2; omega) (fun q => absurd (show g = X by simpa [Value.ownBlock] using q) (by have := h.2.2.2; omega)), ?_, h.2.2⟩
  rw [← e]; exact h.2.1.set_ j _
theorem XS.cells (h : XS w B b k A n cap zs g L c X t ts u) : u.cell? ⟨X, 0, none⟩ = some (.int .i64 t.id) ∧ u.cell? ⟨X, 1, none⟩ = some (.string t.name) ∧ u.cell? ⟨X, 2, none⟩ = some (.int .i64 t.skills) ∧ u.cell? ⟨X, 3, none⟩ = some (.int .i64 t.trips) := ⟨h.2.1.cell 0, h.2.1.cell 1, h.2.1.cell 2, h.2.1.cell 3⟩
theorem XS.fro (h : XS w B b k A n cap zs g L c X t ts u) (o : Nat) : u.frozen? ⟨X, o, none⟩ = false := h.2.1.frozen o
theorem XS.at_ (h : XS w B b k A n cap zs g L c X t ts u) (hL : ts.length = L) {j : Nat} (hj : j < L * 4) : ∃ y, u.cell? ⟨g, j, none⟩ = some y := by
  have hr := h.1.2.2.1
  rw [hL] at hr
  exact ⟨_, (hr.cellAt j hj).trans (List.getElem?_eq_getElem (by rw [flatPs_len, hL]; exact hj))⟩
theorem XS.gfro (h : XS w B b k A n cap zs g L c X t ts u) (hL : ts.length = L) (j : Nat) : u.frozen? ⟨g, j, none⟩ = false := by
  have hr := h.1.2.2.1
  rw [hL] at hr
  exact hr.frozenAt j
end
/-- a list of its own anew -/
theorem GS.fresh {w u : World} {B b k : Nat} {A : Option Addr} {n cap : Nat} {zs : List UInt8} {v : Value} {ts : List Ps} (h : GS w B b k A n cap zs v ts u) : GS w B b k A n cap zs (.slice (some ⟨u.heap.size, 0, none⟩) 0 0) [] (u.alloc (.cells #[] 41)) :=
  ⟨cur_alloc h.1 (by have := h.2.1.size; have := h.2.2.2.2.2; omega) _, h.2.1.trans (World.grownBy_alloc u _ (some b)), World.ownsRow_made u #[] 0 h.2.1.size (by decide) (by simp), by simp, h.2.2.2.2⟩
/-- a letter as a text -/
theorem conv_letter (p : Nat) (hp : p ≤ 20) (w : World) : (convert 22 9 (.slice (some ⟨w.heap.size, 0, none⟩) 1 1)).run Try.prog (w.alloc (.cells #[.int .u8 (97 + (p : Int))] 5)) = .ok (.string ⟨#[UInt8.ofNat (97 + p)]⟩) (w.alloc (.cells #[.int .u8 (97 + (p : Int))] 5)) := by
  refine run_convert_bytes_back _ 22 9 5 ⟨w.heap.size, 0, none⟩ 1 [UInt8.ofNat (97 + p)] Try.underlying22 Try.underlying5 Try.underlying9 ?_
  intro i hi
  have e : i = 0 := by simpa using hi
  subst e
  have e2 : ((UInt8.ofNat (97 + p)).toNat : Int) = 97 + (p : Int) := by
    rw [UInt8.toNat_ofNat_of_lt' (by show 97 + p < 256; omega)]
    omega
  have e3 : ([UInt8.ofNat (97 + p)] : List UInt8)[0] = UInt8.ofNat (97 + p) := rfl
  rw [e3, e2]
  simp [Addr.add]
/-- drawn people -/
def GPo (B b k : Nat) (A : Option Addr) (n cap : Nat) (zs : List UInt8) (w : World) (e : Ending) (w' : World) : Prop :=
  ∃ (v : Value) (ts : List Ps), e = .returned v ∧ ts.length ≤ 11 ∧ GS w B b k A n cap zs v ts w'
end Go.Proofs.Ytidofckanadkpaa.dps

namespace Go.Proofs.Ytidofckanadkpaa.dps
open Go.RowKit
open reads base curs curd cure ty
set_option linter.unusedVariables false
set_option linter.unusedSimpArgs false

set_option maxHeartbeats 16000000 in
set_option maxRecDepth 100000 in
theorem people_any (B b k : Nat) (A : Option Addr) (n cap : Nat) (zs : List UInt8) (w : World) (hk : k ≤ 50000) (h : Hid (Cur w B b k A n cap zs)) :
    Calls Try.prog 75 #[.pointer (some ⟨b, 0, none⟩)] w (GPo B b (k + 100) A n cap zs w) := by
  obtain ⟨j0, kj, kz0, kz1, kz2⟩ := info_parts infoPs
  have hbl := cur_lt h.out
  have hBB : B ≤ w.heap.size := by have := h.out.1; omega
  have HS0 := Lib.hid (show PS w B b k A n cap zs (w.heap.size + 1) (.slice (some ⟨w.heap.size, 0, none⟩) 0 0) [] ((w.alloc (.cells #[] 41)).alloc (.cells #[.string ⟨#[97, 110, 110]⟩, .string ⟨#[98, 111]⟩, .string ⟨#[99, 121]⟩, .string ⟨#[100, 105]⟩, .string ⟨#[101, 118, 101]⟩, .string ⟨#[102, 97, 121]⟩, .string ⟨#[103, 117, 115]⟩, .string ⟨#[104, 97, 108]⟩, .string ⟨#[105, 100, 97]⟩, .string ⟨#[106, 111]⟩] 9)) from
    ⟨GS.alloc ⟨cur_alloc h.out hBB _, World.grownBy_alloc w _ (some b), World.ownsRow_made w #[] 0 (Nat.le_refl _) (by decide) (by simp), by simp, hbl, hBB⟩ _, by have h := Blk.new (w.alloc (.cells #[] 41)) 9 namesC; rw [show (w.alloc (.cells #[] 41)).heap.size = w.heap.size + 1 by simp] at h; exact h, by omega⟩)
  obtain ⟨NB, HNB⟩ : ∃ NB, Hid (w.heap.size + 1 = NB) := ⟨_, Lib.hid rfl⟩
  rw [HNB.out] at HS0
  go_enter Try.func75, Try.ntmps75
  go_upto_region 3 with fail
  try simp only [HNB.out]
  go_wp2_with fail
  refine (pick_any B b k A n cap zs _ 7 (by omega) HS0.out.1.1 (by decide) (by decide)).mono ?_
  rintro e w1 ⟨m, rfl, hm, hC, hg⟩
  have hm6 : m ≤ 6 := by omega
  have HS1 := Lib.hid (HS0.out.step hC hg)
  clear hC hg HS0 hm h
  go_wp2_with fail
  go_loopw [3, 5, 6] (fun v x i wr => ∃ (j q idn c1 : Nat) (A1 : Option Addr) (ts : List Ps), j + q = m ∧ v = .slice A1 j c1 ∧ x = .int .i64 (idn : Nat) ∧ idn ≤ 3 * j ∧ i = .int .i64 (q : Nat) ∧ Hid (ts.length = j) ∧ PS w B b (k + 1 + 3 * j) A n cap zs NB v ts wr) (fun _ _ i _ => (intOf i).toNat)
  case atStart => exact ⟨0, m, 0, 0, _, [], by omega, rfl, rfl, by omega, rfl, Lib.hid rfl, HS1.out⟩
  case round =>
    obtain ⟨j, q, idn, c1, A1, ts, hjq, rfl, rfl, hid, rfl, HL, hS⟩ := hrel
    have HS := Lib.hid hS
    clear hS HS1
    by_cases hq : 0 < q
    · have hqd : decide ((0 : Int) < (q : Int)) = true := by simp; omega
      have hqd2 : decide (0 < q) = true := by simp; omega
      have hj5 : j ≤ 5 := by omega
      go_wp2_with fail
      refine (pick_any B b (k + 1 + 3 * j) A n cap zs _ 3 (by omega) HS.out.1.1 (by decide) (by decide)).mono ?_
      rintro e w7 ⟨r, rfl, hr, hC, hg⟩
      have hr2 : r ≤ 2 := by omega
      have HS7 := Lib.hid (HS.out.step hC hg)
      clear hC hg HS hr
      obtain ⟨nm, hnm, hnl⟩ := name_at (j := j) (by omega)
      have HNM := Lib.hid hnm
      have hcell := HS7.out.name hnm
      have HOK := Lib.hid (show ∀ (i x y : Int), okN ⟨i, nm, x, y⟩ from fun _ _ _ => hnl)
      have hji : (j : Int) < 10 := by omega
      have hj0 : (0 : Int) ≤ (j : Int) := by omega
      clear hnm hnl
      go_upto_region 8 with fail
      refine wp_region_held_drew (S := (fun w' => w'.cell? ⟨NB, j, none⟩ = some (.string nm))) (by kernel_rfl) ?_ (fun hHeld => ?_)
      · exact HS7.out.drew.name HNM.out
      obtain ⟨WD, HWD⟩ : ∃ WD, Hid (w7.drew = WD) := ⟨_, Lib.hid rfl⟩
      have HD := Lib.hid (show PS w B b (k + 1 + 3 * j + 1 + 0) A n cap zs NB (.slice A1 j c1) ts WD by rw [← HWD.out]; exact HS7.out.drew)
      rw [HWD.out] at hHeld ⊢
      clear HWD HS7 hcell
      refine' wpAnyH_take (i := 0) (v := ?vq1_0) rfl (by kernel_rfl) (by kernel_rfl) (by kernel_rfl) (fun _ _ _ h => h) (Or.inl ⟨by rfl, ?hyq1_0⟩) (by assumption) ?restq1_0
      case hyq1_0 => (intro w hSw; (try dsimp only at hSw); go_simp; try (with_reducible rfl))
      simp only [Act.put, List.getElem_toArray, List.getElem_cons_succ, List.getElem_cons_zero, List.setIfInBounds_toArray, List.set_cons_zero, List.set_cons_succ]
      refine' wpAnyH_take (i := 1) (v := ?vq2_1) rfl (by kernel_rfl) (by kernel_rfl) (by kernel_rfl) (fun _ _ _ h => h) (Or.inl ⟨by rfl, ?hyq2_1⟩) (by assumption) ?restq2_1
      case hyq2_1 => (intro w hSw; (try dsimp only at hSw); go_simp; try (with_reducible rfl))
      simp only [Act.put, List.getElem_toArray, List.getElem_cons_succ, List.getElem_cons_zero, List.setIfInBounds_toArray, List.set_cons_zero, List.set_cons_succ]
      refine' wpAnyH_take (i := 2) (v := ?vq3_2) rfl (by kernel_rfl) (by kernel_rfl) (by kernel_rfl) (fun _ _ _ h => h) (Or.inl ⟨by rfl, ?hyq3_2⟩) (by assumption) ?restq3_2
      case hyq3_2 => (intro w hSw; (try dsimp only at hSw); go_simp; try (with_reducible rfl))
      simp only [Act.put, List.getElem_toArray, List.getElem_cons_succ, List.getElem_cons_zero, List.setIfInBounds_toArray, List.set_cons_zero, List.set_cons_succ]
      refine' wpAnyH_take (i := 3) (v := ?vq4_3) rfl (by kernel_rfl) (by kernel_rfl) (by kernel_rfl) (fun _ _ _ h => h) (Or.inl ⟨by rfl, ?hyq4_3⟩) (by assumption) ?restq4_3
      case hyq4_3 => (intro w hSw; (try dsimp only at hSw); go_simp; try (with_reducible rfl))
      simp only [Act.put, List.getElem_toArray, List.getElem_cons_succ, List.getElem_cons_zero, List.setIfInBounds_toArray, List.set_cons_zero, List.set_cons_succ]
      refine' wpAnyH_take (i := 4) (v := ?vq5_4) rfl (by kernel_rfl) (by kernel_rfl) (by kernel_rfl) (fun _ _ _ h => h) (Or.inl ⟨by rfl, ?hyq5_4⟩) (by assumption) ?restq5_4
      case hyq5_4 => (intro w hSw; (try dsimp only at hSw); go_simp; try (with_reducible rfl))
      simp only [Act.put, List.getElem_toArray, List.getElem_cons_succ, List.getElem_cons_zero, List.setIfInBounds_toArray, List.set_cons_zero, List.set_cons_succ]
      refine' wpAnyH_take (i := 5) (v := ?vq6_5) rfl (by kernel_rfl) (by kernel_rfl) (by kernel_rfl) (fun _ _ _ h => h) (Or.inl ⟨by rfl, ?hyq6_5⟩) (by assumption) ?restq6_5
      case hyq6_5 => (intro w hSw; (try dsimp only at hSw); go_simp; try (with_reducible rfl))
      simp only [Act.put, List.getElem_toArray, List.getElem_cons_succ, List.getElem_cons_zero, List.setIfInBounds_toArray, List.set_cons_zero, List.set_cons_succ]
      refine' wpAnyH_take (i := 6) (v := ?vq7_6) rfl (by kernel_rfl) (by kernel_rfl) (by kernel_rfl) (fun _ _ _ h => h) (Or.inl ⟨by rfl, ?hyq7_6⟩) (by assumption) ?restq7_6
      case hyq7_6 => (intro w hSw; (try dsimp only at hSw); go_simp; try (with_reducible rfl))
      simp only [Act.put, List.getElem_toArray, List.getElem_cons_succ, List.getElem_cons_zero, List.setIfInBounds_toArray, List.set_cons_zero, List.set_cons_succ]
      refine' wpAnyH_take (i := 7) (v := ?vq8_7) rfl (by kernel_rfl) (by kernel_rfl) (by kernel_rfl) (fun _ _ _ h => h) (Or.inl ⟨by rfl, ?hyq8_7⟩) (by assumption) ?restq8_7
      case hyq8_7 => (intro w hSw; (try dsimp only at hSw); go_simp; try (with_reducible rfl))
      simp only [Act.put, List.getElem_toArray, List.getElem_cons_succ, List.getElem_cons_zero, List.setIfInBounds_toArray, List.set_cons_zero, List.set_cons_succ]
      refine' wpAnyH_take (i := 10) (v := ?vq9_10) rfl (by kernel_rfl) (by kernel_rfl) (by kernel_rfl) (fun _ _ _ h => h) (Or.inl ⟨by rfl, ?hyq9_10⟩) (by assumption) ?restq9_10
      case hyq9_10 => (intro w hSw; (try dsimp only at hSw); go_simp; try (with_reducible rfl))
      simp only [Act.put, List.getElem_toArray, List.getElem_cons_succ, List.getElem_cons_zero, List.setIfInBounds_toArray, List.set_cons_zero, List.set_cons_succ]
      refine wpAnyH_ready (rs := [8, 11]) (by kernel_rfl) (by simp) ?_
      refine AllReadyH.cons rfl (fun K hK => ?_) (AllReadyH.cons rfl (fun K hK => ?_) AllReadyH.nil)
      · go_simp
        refine hK.out _ _ ((HD.out.alloc _).name HNM.out) (fun hHeld1 => ?_)
        clear hK K hHeld
        have hHeld := hHeld1
        clear hHeld1
        try simp only [Act.put, List.getElem_toArray, List.getElem_cons_succ, List.getElem_cons_zero, List.setIfInBounds_toArray, List.set_cons_zero, List.set_cons_succ]
        obtain ⟨W1, HW1, HP1, HB8⟩ : ∃ Wx, Hid (WD.alloc (.cells #[.int .i64 0, .int .i64 1, .int .i64 1, .int .i64 2, .int .i64 2, .int .i64 3, .int .i64 5, .int .i64 10, .int .i64 15] 3) = Wx) ∧ Hid (PS w B b (k + 1 + 3 * j + 1 + 0) A n cap zs NB (.slice A1 j c1) ts Wx) ∧ Hid (Blk Wx WD.heap.size 3 #[.int .i64 0, .int .i64 1, .int .i64 1, .int .i64 2, .int .i64 2, .int .i64 3, .int .i64 5, .int .i64 10, .int .i64 15]) := ⟨_, Lib.hid rfl, Lib.hid (HD.out.alloc _), Lib.hid (Blk.new _ _ _)⟩
        obtain ⟨G8, HG8⟩ : ∃ G, Hid (WD.heap.size = G) := ⟨_, Lib.hid rfl⟩
        have hne8 : G8 ≠ b := by rw [← HG8.out]; have := cur_lt HD.out.1.1; omega
        rw [HG8.out] at HB8
        rw [HW1.out] at hHeld ⊢
        try rw [HG8.out]
        clear HW1 HD
        refine wpAnyH_ready (rs := [9, 11]) (by kernel_rfl) (by simp) ?_
        refine AllReadyH.cons rfl (fun K hK => ?_) (AllReadyH.cons rfl (fun K hK => ?_) AllReadyH.nil)
        · skip
          go_simp
          refine (among_any B b (k + 1 + 3 * j + 1 + 0) A n cap zs _ G8 9 _ [0, 1, 1, 2, 2, 3, 5, 10, 15] (by omega) HP1.out.1.1 HB8.out hne8 rfl (by decide) (by decide)).mono ?_
          rintro e W2 ⟨x2, hx2, rfl, hC, hg⟩
          have HP2 := Lib.hid (HP1.out.step hC hg)
          clear hx2
          refine hK.out _ _ (HP2.out.name HNM.out) (fun hHeld1 => ?_)
          clear hK K hHeld
          have hHeld := hHeld1
          clear hHeld1
          try simp only [Act.put, List.getElem_toArray, List.getElem_cons_succ, List.getElem_cons_zero, List.setIfInBounds_toArray, List.set_cons_zero, List.set_cons_succ]
          clear hC hg HP1
          refine wpAnyH_ready (rs := [11]) (by kernel_rfl) (by simp) ?_
          refine AllReadyH.cons rfl (fun K hK => ?_) AllReadyH.nil
          go_simp
          refine hK.out _ _ ((HP2.out.alloc _).name HNM.out) (fun hHeld1 => ?_)
          clear hK K hHeld
          have hHeld := hHeld1
          clear hHeld1
          try simp only [Act.put, List.getElem_toArray, List.getElem_cons_succ, List.getElem_cons_zero, List.setIfInBounds_toArray, List.set_cons_zero, List.set_cons_succ]
          obtain ⟨W3, HW3, HP3, HB11⟩ : ∃ Wx, Hid (W2.alloc (.cells #[.int .i64 0, .int .i64 1, .int .i64 5, .int .i64 10, .int .i64 20, .int .i64 500] 3) = Wx) ∧ Hid (PS w B b (k + 1 + 3 * j + 1 + 1) A n cap zs NB (.slice A1 j c1) ts Wx) ∧ Hid (Blk Wx W2.heap.size 3 #[.int .i64 0, .int .i64 1, .int .i64 5, .int .i64 10, .int .i64 20, .int .i64 500]) := ⟨_, Lib.hid rfl, Lib.hid (HP2.out.alloc _), Lib.hid (Blk.new _ _ _)⟩
          obtain ⟨G11, HG11⟩ : ∃ G, Hid (W2.heap.size = G) := ⟨_, Lib.hid rfl⟩
          have hne11 : G11 ≠ b := by rw [← HG11.out]; have := cur_lt HP2.out.1.1; omega
          rw [HG11.out] at HB11
          rw [HW3.out] at hHeld ⊢
          try rw [HG11.out]
          clear HW3 HP2
          refine wpAnyH_ready (rs := [12]) (by kernel_rfl) (by simp) ?_
          refine AllReadyH.cons rfl (fun K hK => ?_) AllReadyH.nil
          go_simp
          refine (among_any B b (k + 1 + 3 * j + 1 + 1) A n cap zs _ G11 6 _ [0, 1, 5, 10, 20, 500] (by omega) HP3.out.1.1 HB11.out hne11 rfl (by decide) (by decide)).mono ?_
          rintro e W4 ⟨x3, hx3, rfl, hC, hg⟩
          have HP4 := Lib.hid (HP3.out.step hC hg)
          clear hx3
          refine hK.out _ _ (HP4.out.name HNM.out) (fun hHeld1 => ?_)
          clear hK K hHeld
          have hHeld := hHeld1
          clear hHeld1
          try simp only [Act.put, List.getElem_toArray, List.getElem_cons_succ, List.getElem_cons_zero, List.setIfInBounds_toArray, List.set_cons_zero, List.set_cons_succ]
          clear hC hg HP3
          refine' wpAnyH_take (i := 13) (v := ?vq10_13) rfl (by kernel_rfl) (by kernel_rfl) (by kernel_rfl) (fun _ _ _ h => h) (Or.inl ⟨by rfl, ?hyq10_13⟩) (by assumption) ?restq10_13
          case hyq10_13 => (intro w hSw; (try dsimp only at hSw); go_simp; try (with_reducible rfl))
          simp only [Act.put, List.getElem_toArray, List.getElem_cons_succ, List.getElem_cons_zero, List.setIfInBounds_toArray, List.set_cons_zero, List.set_cons_succ]
          refine wpAnyH_ready (rs := [14]) (by kernel_rfl) (by simp) ?_
          refine AllReadyH.cons rfl (fun K hK => ?_) AllReadyH.nil
          go_simp
          refine hK.out _ _ ((HP4.out.alloc _).name HNM.out) (fun hHeld1 => ?_)
          clear hK K hHeld
          have hHeld := hHeld1
          clear hHeld1
          try simp only [Act.put, List.getElem_toArray, List.getElem_cons_succ, List.getElem_cons_zero, List.setIfInBounds_toArray, List.set_cons_zero, List.set_cons_succ]
          have HO2 := Lib.hid (show W4.ownsRow w.heap.size 41 4 (.slice A1 j c1) j (flatPs ts) by have h := HP4.out.1.2.2.1; rw [HL.out] at h; exact h)
          refine wpAnyH_ready (rs := [15]) (by kernel_rfl) (by simp) ?_
          refine AllReadyH.cons rfl (fun K hK => ?_) AllReadyH.nil
          refine step_append_lies _ rfl _ _ 24 rfl w.heap.size 41 j0 _ 4 40 Try.underlying24 kj kz0 kz1 kz2 rfl (by decide) (.slice A1 j c1) j (flatPs ts) rfl (HO2.out.alloc _) ⟨W4.heap.size, 0, none⟩ 1 1 [.int .i64 ((idn : Int) + 1 + (r : Int)), .string nm, .int .i64 x2, .int .i64 x3] rfl rfl (World.news_of_block (alloc_at rfl)) (by simp [Value.oneCell']) (by decide) (by unfold maxLen; omega) (by omega) (by have := HP4.out.1.2.1.size; simp; omega) _ rfl ?_
          intro g9 c9 w9 ho9 hg9 _ _
          have HP9 := Lib.hid (((HP4.out.alloc _).app (t := ⟨(idn : Int) + 1 + (r : Int), nm, x2, x3⟩) (HOK.out _ _ _) (by rw [HL.out]; exact ho9) hg9).more (show k + 1 + 3 * j + 1 + 2 ≤ k + 1 + 3 * (j + 1) by omega))
          clear ho9 hg9
          refine hK.out _ _ (HP9.out.name HNM.out) (fun hHeld1 => ?_)
          clear hK K hHeld
          have hHeld := hHeld1
          clear hHeld1
          try simp only [Act.put, List.getElem_toArray, List.getElem_cons_succ, List.getElem_cons_zero, List.setIfInBounds_toArray, List.set_cons_zero, List.set_cons_succ]
          refine' wpAnyH_take (i := 16) (v := ?vq11_16) rfl (by kernel_rfl) (by kernel_rfl) (by kernel_rfl) (fun _ _ _ h => h) (Or.inl ⟨by rfl, ?hyq11_16⟩) (by assumption) ?restq11_16
          case hyq11_16 => (intro w hSw; (try dsimp only at hSw); go_simp; try (with_reducible rfl))
          simp only [Act.put, List.getElem_toArray, List.getElem_cons_succ, List.getElem_cons_zero, List.setIfInBounds_toArray, List.set_cons_zero, List.set_cons_succ]
          refine wpAnyH_done (by kernel_rfl) ?_ _
          clear hHeld HP4 HO2
          go_wp2_with fail
          go_roundw
          case rel => exact ⟨j + 1, q - 1, idn + 1 + r, c9, some ⟨g9, 0, none⟩, ts ++ [⟨(idn : Int) + 1 + (r : Int), nm, x2, x3⟩], by omega, rfl, by go_num, by omega, by first | go_num | (congr 1; omega), Lib.hid (by rw [List.length_append, HL.out]; rfl), HP9.out⟩
          case measure => simp [intOf]; omega
        · skip
          go_simp
          refine hK.out _ _ ((HP1.out.alloc _).name HNM.out) (fun hHeld1 => ?_)
          clear hK K hHeld
          have hHeld := hHeld1
          clear hHeld1
          try simp only [Act.put, List.getElem_toArray, List.getElem_cons_succ, List.getElem_cons_zero, List.setIfInBounds_toArray, List.set_cons_zero, List.set_cons_succ]
          obtain ⟨W2, HW2, HP2, HB11⟩ : ∃ Wx, Hid (W1.alloc (.cells #[.int .i64 0, .int .i64 1, .int .i64 5, .int .i64 10, .int .i64 20, .int .i64 500] 3) = Wx) ∧ Hid (PS w B b (k + 1 + 3 * j + 1 + 0) A n cap zs NB (.slice A1 j c1) ts Wx) ∧ Hid (Blk Wx W1.heap.size 3 #[.int .i64 0, .int .i64 1, .int .i64 5, .int .i64 10, .int .i64 20, .int .i64 500]) := ⟨_, Lib.hid rfl, Lib.hid (HP1.out.alloc _), Lib.hid (Blk.new _ _ _)⟩
          obtain ⟨G11, HG11⟩ : ∃ G, Hid (W1.heap.size = G) := ⟨_, Lib.hid rfl⟩
          have hne11 : G11 ≠ b := by rw [← HG11.out]; have := cur_lt HP1.out.1.1; omega
          rw [HG11.out] at HB11
          rw [HW2.out] at hHeld ⊢
          try rw [HG11.out]
          have HB8' := Lib.hid (show Blk W2 G8 3 #[.int .i64 0, .int .i64 1, .int .i64 1, .int .i64 2, .int .i64 2, .int .i64 3, .int .i64 5, .int .i64 10, .int .i64 15] by rw [← HW2.out]; exact HB8.out.alloc _)
          clear HB8
          have HB8 := HB8'
          clear HB8'
          clear HW2 HP1
          refine wpAnyH_ready (rs := [9]) (by kernel_rfl) (by simp) ?_
          refine AllReadyH.cons rfl (fun K hK => ?_) AllReadyH.nil
          go_simp
          refine (among_any B b (k + 1 + 3 * j + 1 + 0) A n cap zs _ G8 9 _ [0, 1, 1, 2, 2, 3, 5, 10, 15] (by omega) HP2.out.1.1 HB8.out hne8 rfl (by decide) (by decide)).mono ?_
          rintro e W3 ⟨x2, hx2, rfl, hC, hg⟩
          have HP3 := Lib.hid (HP2.out.step hC hg)
          clear hx2
          have HB11' := Lib.hid (HB11.out.grown hg (by intro e; injection e with e; exact hne11 e))
          clear HB11
          have HB11 := HB11'
          clear HB11'
          refine hK.out _ _ (HP3.out.name HNM.out) (fun hHeld1 => ?_)
          clear hK K hHeld
          have hHeld := hHeld1
          clear hHeld1
          try simp only [Act.put, List.getElem_toArray, List.getElem_cons_succ, List.getElem_cons_zero, List.setIfInBounds_toArray, List.set_cons_zero, List.set_cons_succ]
          clear hC hg HP2
          refine wpAnyH_ready (rs := [12]) (by kernel_rfl) (by simp) ?_
          refine AllReadyH.cons rfl (fun K hK => ?_) AllReadyH.nil
          go_simp
          refine (among_any B b (k + 1 + 3 * j + 1 + 1) A n cap zs _ G11 6 _ [0, 1, 5, 10, 20, 500] (by omega) HP3.out.1.1 HB11.out hne11 rfl (by decide) (by decide)).mono ?_
          rintro e W4 ⟨x3, hx3, rfl, hC, hg⟩
          have HP4 := Lib.hid (HP3.out.step hC hg)
          clear hx3
          refine hK.out _ _ (HP4.out.name HNM.out) (fun hHeld1 => ?_)
          clear hK K hHeld
          have hHeld := hHeld1
          clear hHeld1
          try simp only [Act.put, List.getElem_toArray, List.getElem_cons_succ, List.getElem_cons_zero, List.setIfInBounds_toArray, List.set_cons_zero, List.set_cons_succ]
          clear hC hg HP3
          refine' wpAnyH_take (i := 13) (v := ?vq12_13) rfl (by kernel_rfl) (by kernel_rfl) (by kernel_rfl) (fun _ _ _ h => h) (Or.inl ⟨by rfl, ?hyq12_13⟩) (by assumption) ?restq12_13
          case hyq12_13 => (intro w hSw; (try dsimp only at hSw); go_simp; try (with_reducible rfl))
          simp only [Act.put, List.getElem_toArray, List.getElem_cons_succ, List.getElem_cons_zero, List.setIfInBounds_toArray, List.set_cons_zero, List.set_cons_succ]
          refine wpAnyH_ready (rs := [14]) (by kernel_rfl) (by simp) ?_
          refine AllReadyH.cons rfl (fun K hK => ?_) AllReadyH.nil
          go_simp
          refine hK.out _ _ ((HP4.out.alloc _).name HNM.out) (fun hHeld1 => ?_)
          clear hK K hHeld
          have hHeld := hHeld1
          clear hHeld1
          try simp only [Act.put, List.getElem_toArray, List.getElem_cons_succ, List.getElem_cons_zero, List.setIfInBounds_toArray, List.set_cons_zero, List.set_cons_succ]
          have HO2 := Lib.hid (show W4.ownsRow w.heap.size 41 4 (.slice A1 j c1) j (flatPs ts) by have h := HP4.out.1.2.2.1; rw [HL.out] at h; exact h)
          refine wpAnyH_ready (rs := [15]) (by kernel_rfl) (by simp) ?_
          refine AllReadyH.cons rfl (fun K hK => ?_) AllReadyH.nil
          refine step_append_lies _ rfl _ _ 24 rfl w.heap.size 41 j0 _ 4 40 Try.underlying24 kj kz0 kz1 kz2 rfl (by decide) (.slice A1 j c1) j (flatPs ts) rfl (HO2.out.alloc _) ⟨W4.heap.size, 0, none⟩ 1 1 [.int .i64 ((idn : Int) + 1 + (r : Int)), .string nm, .int .i64 x2, .int .i64 x3] rfl rfl (World.news_of_block (alloc_at rfl)) (by simp [Value.oneCell']) (by decide) (by unfold maxLen; omega) (by omega) (by have := HP4.out.1.2.1.size; simp; omega) _ rfl ?_
          intro g9 c9 w9 ho9 hg9 _ _
          have HP9 := Lib.hid (((HP4.out.alloc _).app (t := ⟨(idn : Int) + 1 + (r : Int), nm, x2, x3⟩) (HOK.out _ _ _) (by rw [HL.out]; exact ho9) hg9).more (show k + 1 + 3 * j + 1 + 2 ≤ k + 1 + 3 * (j + 1) by omega))
          clear ho9 hg9
          refine hK.out _ _ (HP9.out.name HNM.out) (fun hHeld1 => ?_)
          clear hK K hHeld
          have hHeld := hHeld1
          clear hHeld1
          try simp only [Act.put, List.getElem_toArray, List.getElem_cons_succ, List.getElem_cons_zero, List.setIfInBounds_toArray, List.set_cons_zero, List.set_cons_succ]
          refine' wpAnyH_take (i := 16) (v := ?vq13_16) rfl (by kernel_rfl) (by kernel_rfl) (by kernel_rfl) (fun _ _ _ h => h) (Or.inl ⟨by rfl, ?hyq13_16⟩) (by assumption) ?restq13_16
          case hyq13_16 => (intro w hSw; (try dsimp only at hSw); go_simp; try (with_reducible rfl))
          simp only [Act.put, List.getElem_toArray, List.getElem_cons_succ, List.getElem_cons_zero, List.setIfInBounds_toArray, List.set_cons_zero, List.set_cons_succ]
          refine wpAnyH_done (by kernel_rfl) ?_ _
          clear hHeld HP4 HO2
          go_wp2_with fail
          go_roundw
          case rel => exact ⟨j + 1, q - 1, idn + 1 + r, c9, some ⟨g9, 0, none⟩, ts ++ [⟨(idn : Int) + 1 + (r : Int), nm, x2, x3⟩], by omega, rfl, by go_num, by omega, by first | go_num | (congr 1; omega), Lib.hid (by rw [List.length_append, HL.out]; rfl), HP9.out⟩
          case measure => simp [intOf]; omega
      · skip
        go_simp
        refine hK.out _ _ ((HD.out.alloc _).name HNM.out) (fun hHeld1 => ?_)
        clear hK K hHeld
        have hHeld := hHeld1
        clear hHeld1
        try simp only [Act.put, List.getElem_toArray, List.getElem_cons_succ, List.getElem_cons_zero, List.setIfInBounds_toArray, List.set_cons_zero, List.set_cons_succ]
        obtain ⟨W1, HW1, HP1, HB11⟩ : ∃ Wx, Hid (WD.alloc (.cells #[.int .i64 0, .int .i64 1, .int .i64 5, .int .i64 10, .int .i64 20, .int .i64 500] 3) = Wx) ∧ Hid (PS w B b (k + 1 + 3 * j + 1 + 0) A n cap zs NB (.slice A1 j c1) ts Wx) ∧ Hid (Blk Wx WD.heap.size 3 #[.int .i64 0, .int .i64 1, .int .i64 5, .int .i64 10, .int .i64 20, .int .i64 500]) := ⟨_, Lib.hid rfl, Lib.hid (HD.out.alloc _), Lib.hid (Blk.new _ _ _)⟩
        obtain ⟨G11, HG11⟩ : ∃ G, Hid (WD.heap.size = G) := ⟨_, Lib.hid rfl⟩
        have hne11 : G11 ≠ b := by rw [← HG11.out]; have := cur_lt HD.out.1.1; omega
        rw [HG11.out] at HB11
        rw [HW1.out] at hHeld ⊢
        try rw [HG11.out]
        clear HW1 HD
        refine wpAnyH_ready (rs := [8]) (by kernel_rfl) (by simp) ?_
        refine AllReadyH.cons rfl (fun K hK => ?_) AllReadyH.nil
        go_simp
        refine hK.out _ _ ((HP1.out.alloc _).name HNM.out) (fun hHeld1 => ?_)
        clear hK K hHeld
        have hHeld := hHeld1
        clear hHeld1
        try simp only [Act.put, List.getElem_toArray, List.getElem_cons_succ, List.getElem_cons_zero, List.setIfInBounds_toArray, List.set_cons_zero, List.set_cons_succ]
        obtain ⟨W2, HW2, HP2, HB8⟩ : ∃ Wx, Hid (W1.alloc (.cells #[.int .i64 0, .int .i64 1, .int .i64 1, .int .i64 2, .int .i64 2, .int .i64 3, .int .i64 5, .int .i64 10, .int .i64 15] 3) = Wx) ∧ Hid (PS w B b (k + 1 + 3 * j + 1 + 0) A n cap zs NB (.slice A1 j c1) ts Wx) ∧ Hid (Blk Wx W1.heap.size 3 #[.int .i64 0, .int .i64 1, .int .i64 1, .int .i64 2, .int .i64 2, .int .i64 3, .int .i64 5, .int .i64 10, .int .i64 15]) := ⟨_, Lib.hid rfl, Lib.hid (HP1.out.alloc _), Lib.hid (Blk.new _ _ _)⟩
        obtain ⟨G8, HG8⟩ : ∃ G, Hid (W1.heap.size = G) := ⟨_, Lib.hid rfl⟩
        have hne8 : G8 ≠ b := by rw [← HG8.out]; have := cur_lt HP1.out.1.1; omega
        rw [HG8.out] at HB8
        rw [HW2.out] at hHeld ⊢
        try rw [HG8.out]
        have HB11' := Lib.hid (show Blk W2 G11 3 #[.int .i64 0, .int .i64 1, .int .i64 5, .int .i64 10, .int .i64 20, .int .i64 500] by rw [← HW2.out]; exact HB11.out.alloc _)
        clear HB11
        have HB11 := HB11'
        clear HB11'
        clear HW2 HP1
        refine wpAnyH_ready (rs := [9]) (by kernel_rfl) (by simp) ?_
        refine AllReadyH.cons rfl (fun K hK => ?_) AllReadyH.nil
        go_simp
        refine (among_any B b (k + 1 + 3 * j + 1 + 0) A n cap zs _ G8 9 _ [0, 1, 1, 2, 2, 3, 5, 10, 15] (by omega) HP2.out.1.1 HB8.out hne8 rfl (by decide) (by decide)).mono ?_
        rintro e W3 ⟨x2, hx2, rfl, hC, hg⟩
        have HP3 := Lib.hid (HP2.out.step hC hg)
        clear hx2
        have HB11' := Lib.hid (HB11.out.grown hg (by intro e; injection e with e; exact hne11 e))
        clear HB11
        have HB11 := HB11'
        clear HB11'
        refine hK.out _ _ (HP3.out.name HNM.out) (fun hHeld1 => ?_)
        clear hK K hHeld
        have hHeld := hHeld1
        clear hHeld1
        try simp only [Act.put, List.getElem_toArray, List.getElem_cons_succ, List.getElem_cons_zero, List.setIfInBounds_toArray, List.set_cons_zero, List.set_cons_succ]
        clear hC hg HP2
        refine wpAnyH_ready (rs := [12]) (by kernel_rfl) (by simp) ?_
        refine AllReadyH.cons rfl (fun K hK => ?_) AllReadyH.nil
        go_simp
        refine (among_any B b (k + 1 + 3 * j + 1 + 1) A n cap zs _ G11 6 _ [0, 1, 5, 10, 20, 500] (by omega) HP3.out.1.1 HB11.out hne11 rfl (by decide) (by decide)).mono ?_
        rintro e W4 ⟨x3, hx3, rfl, hC, hg⟩
        have HP4 := Lib.hid (HP3.out.step hC hg)
        clear hx3
        refine hK.out _ _ (HP4.out.name HNM.out) (fun hHeld1 => ?_)
        clear hK K hHeld
        have hHeld := hHeld1
        clear hHeld1
        try simp only [Act.put, List.getElem_toArray, List.getElem_cons_succ, List.getElem_cons_zero, List.setIfInBounds_toArray, List.set_cons_zero, List.set_cons_succ]
        clear hC hg HP3
        refine' wpAnyH_take (i := 13) (v := ?vq14_13) rfl (by kernel_rfl) (by kernel_rfl) (by kernel_rfl) (fun _ _ _ h => h) (Or.inl ⟨by rfl, ?hyq14_13⟩) (by assumption) ?restq14_13
        case hyq14_13 => (intro w hSw; (try dsimp only at hSw); go_simp; try (with_reducible rfl))
        simp only [Act.put, List.getElem_toArray, List.getElem_cons_succ, List.getElem_cons_zero, List.setIfInBounds_toArray, List.set_cons_zero, List.set_cons_succ]
        refine wpAnyH_ready (rs := [14]) (by kernel_rfl) (by simp) ?_
        refine AllReadyH.cons rfl (fun K hK => ?_) AllReadyH.nil
        go_simp
        refine hK.out _ _ ((HP4.out.alloc _).name HNM.out) (fun hHeld1 => ?_)
        clear hK K hHeld
        have hHeld := hHeld1
        clear hHeld1
        try simp only [Act.put, List.getElem_toArray, List.getElem_cons_succ, List.getElem_cons_zero, List.setIfInBounds_toArray, List.set_cons_zero, List.set_cons_succ]
        have HO2 := Lib.hid (show W4.ownsRow w.heap.size 41 4 (.slice A1 j c1) j (flatPs ts) by have h := HP4.out.1.2.2.1; rw [HL.out] at h; exact h)
        refine wpAnyH_ready (rs := [15]) (by kernel_rfl) (by simp) ?_
        refine AllReadyH.cons rfl (fun K hK => ?_) AllReadyH.nil
        refine step_append_lies _ rfl _ _ 24 rfl w.heap.size 41 j0 _ 4 40 Try.underlying24 kj kz0 kz1 kz2 rfl (by decide) (.slice A1 j c1) j (flatPs ts) rfl (HO2.out.alloc _) ⟨W4.heap.size, 0, none⟩ 1 1 [.int .i64 ((idn : Int) + 1 + (r : Int)), .string nm, .int .i64 x2, .int .i64 x3] rfl rfl (World.news_of_block (alloc_at rfl)) (by simp [Value.oneCell']) (by decide) (by unfold maxLen; omega) (by omega) (by have := HP4.out.1.2.1.size; simp; omega) _ rfl ?_
        intro g9 c9 w9 ho9 hg9 _ _
        have HP9 := Lib.hid (((HP4.out.alloc _).app (t := ⟨(idn : Int) + 1 + (r : Int), nm, x2, x3⟩) (HOK.out _ _ _) (by rw [HL.out]; exact ho9) hg9).more (show k + 1 + 3 * j + 1 + 2 ≤ k + 1 + 3 * (j + 1) by omega))
        clear ho9 hg9
        refine hK.out _ _ (HP9.out.name HNM.out) (fun hHeld1 => ?_)
        clear hK K hHeld
        have hHeld := hHeld1
        clear hHeld1
        try simp only [Act.put, List.getElem_toArray, List.getElem_cons_succ, List.getElem_cons_zero, List.setIfInBounds_toArray, List.set_cons_zero, List.set_cons_succ]
        refine' wpAnyH_take (i := 16) (v := ?vq15_16) rfl (by kernel_rfl) (by kernel_rfl) (by kernel_rfl) (fun _ _ _ h => h) (Or.inl ⟨by rfl, ?hyq15_16⟩) (by assumption) ?restq15_16
        case hyq15_16 => (intro w hSw; (try dsimp only at hSw); go_simp; try (with_reducible rfl))
        simp only [Act.put, List.getElem_toArray, List.getElem_cons_succ, List.getElem_cons_zero, List.setIfInBounds_toArray, List.set_cons_zero, List.set_cons_succ]
        refine wpAnyH_done (by kernel_rfl) ?_ _
        clear hHeld HP4 HO2
        go_wp2_with fail
        go_roundw
        case rel => exact ⟨j + 1, q - 1, idn + 1 + r, c9, some ⟨g9, 0, none⟩, ts ++ [⟨(idn : Int) + 1 + (r : Int), nm, x2, x3⟩], by omega, rfl, by go_num, by omega, by first | go_num | (congr 1; omega), Lib.hid (by rw [List.length_append, HL.out]; rfl), HP9.out⟩
        case measure => simp [intOf]; omega
    · obtain rfl : q = 0 := by omega
      have hqd : decide ((0 : Int) < ((0 : Nat) : Int)) = false := by simp
      obtain rfl : m = j := by omega
      have HG := Lib.hid (HS.out.1.more (show k + 1 + 3 * m ≤ k + 30 by omega))
      clear HS
      by_cases hm0 : m = 0
      · subst hm0
        have HG2 := Lib.hid (HG.out.more (show k + 30 ≤ k + 100 by omega))
        clear HG
        go_wp2_with fail
        go_ret
        exact ⟨_, ts, rfl, by rw [HL.out]; omega, HG2.out⟩
      have hz1 : ((m : Int) == 0) = false := by simp; omega
      have hz2 : (m == 0) = false := by simpa using hm0
      have hz3 : decide (m = 0) = false := by simpa using hm0
      go_wp2_with fail
      refine (pick_any B b (k + 30) A n cap zs _ m (by omega) HG.out.1 (by omega) (by omega)).mono ?_
      rintro e w2 ⟨r, rfl, hr, hC, hg⟩
      have hrm : r < m := by omega
      have HG2 := Lib.hid (HG.out.step hC hg)
      clear hC hg HG hr
      obtain ⟨g, cap', hv, hgb, -⟩ := (HG2.out.2.2.1).form (by rw [HL.out]; omega)
      injection hv with hA hn2 hc2
      subst hA
      clear hc2 hn2
      have hPs := own_Ps HL.out (by have := HG2.out.2.2.1; rw [HL.out] at this; exact this)
      obtain ⟨t, htk⟩ := at_lt HL.out hrm
      obtain ⟨g1, e1, hgl, h0, h1, h2, h3⟩ := hPs.2 r t htk
      obtain rfl : g = g1 := by injection e1 with e1; injection e1
      have HOT := Lib.hid (HG2.out.2.2.2.1 t (List.mem_of_getElem? htk))
      clear e1 hPs htk
      have hri : (r : Int) < (m : Int) := by omega
      have hr0 : (0 : Int) ≤ (r : Int) := by omega
      go_upto_region 13 with fail
      obtain ⟨W3, HW3, HX3⟩ : ∃ Wx, Hid (w2.alloc (.cells #[.int .i64 t.id, .string t.name, .int .i64 t.skills, .int .i64 t.trips] 41) = Wx) ∧ Hid (XS w B b (k + 31) A n cap zs g m c1 w2.heap.size t ts Wx) := ⟨_, Lib.hid rfl, Lib.hid ⟨HG2.out.alloc _, Blk.new _ _ _, by have := cur_lt HG2.out.1; omega, hgl⟩⟩
      obtain ⟨X, HX⟩ : ∃ X, Hid (w2.heap.size = X) := ⟨_, Lib.hid rfl⟩
      rw [HX.out] at HX3
      rw [HW3.out]
      try rw [HX.out]
      clear HW3 HG2 h0 h1 h2 h3 hgl
      go_wp2_with fail
      refine (pick_any B b (k + 31) A n cap zs _ 50 (by omega) HX3.out.1.1 (by decide) (by decide)).mono ?_
      rintro e w5 ⟨q, rfl, hq50, hC, hg⟩
      have HX5 := Lib.hid (HX3.out.step hC hg)
      clear hC hg HX3 hq50
      by_cases q0 : q = 0
      · subst q0
        go_wp2_with fail
        refine (among_new B b (k + 32) A n cap zs w5 3 _ [0, 99, 100] (by omega) HX5.out.1.1 rfl (by decide) (by decide)).mono ?_
        rintro e w6 ⟨y, hy, rfl, hC, hg⟩
        have HX6 := Lib.hid (HX5.out.step hC hg)
        clear hC hg HX5 hy
        obtain ⟨c0, c1_, c2, c3⟩ := HX6.out.cells
        have ff := HX6.out.fro 0
        go_upto_region 29 with fail
        obtain ⟨W7, HW7, HX7⟩ : ∃ Wx, Hid (w6.setCell ⟨X, 0, none⟩ (.int .i64 y) = Wx) ∧ Hid (XS w B b (k + 32 + 1) A n cap zs g m c1 X ⟨y, t.name, t.skills, t.trips⟩ ts Wx) := ⟨_, Lib.hid rfl, Lib.hid (HX6.out.set 0 _ ⟨y, t.name, t.skills, t.trips⟩ rfl)⟩
        rw [HW7.out]
        clear HW7 HX6 c0 c1_ c2 c3 ff
        obtain ⟨c0, c1_, c2, c3⟩ := HX7.out.cells
        obtain ⟨y0, k0⟩ := HX7.out.at_ HL.out (j := r * 4) (by omega)
        obtain ⟨y1, k1⟩ := HX7.out.at_ HL.out (j := r * 4 + 1) (by omega)
        obtain ⟨y2, k2⟩ := HX7.out.at_ HL.out (j := r * 4 + 2) (by omega)
        obtain ⟨y3, k3⟩ := HX7.out.at_ HL.out (j := r * 4 + 3) (by omega)
        have f0 := HX7.out.gfro HL.out (r * 4)
        have f1 := HX7.out.gfro HL.out (r * 4 + 1)
        have f2 := HX7.out.gfro HL.out (r * 4 + 2)
        have f3 := HX7.out.gfro HL.out (r * 4 + 3)
        have HGO := Lib.hid ((HX7.out.1.put HL.out hrm (t := ⟨y, t.name, t.skills, t.trips⟩) (show okN ⟨y, t.name, t.skills, t.trips⟩ from HOT.out)).more (show k + 33 ≤ k + 100 by omega))
        have hgX := HX7.out.2.2.2
        go_wp2_with fail
        go_ret
        exact ⟨_, ts.set r ⟨y, t.name, t.skills, t.trips⟩, rfl, by rw [List.length_set, HL.out]; omega, HGO.out⟩
      by_cases q1 : q = 1
      · subst q1
        go_wp2_with fail
        refine (curo.of_new B b (k + 32) A n cap zs w5 4 _ [⟨#[]⟩, ⟨#[65]⟩, ⟨#[97, 110, 110]⟩, ⟨#[97, 98, 99, 100, 101, 102, 103, 104, 105, 106, 107]⟩] (by omega) HX5.out.1.1 rfl (by decide) (by decide)).mono ?_
        rintro e w6 ⟨y, hy, rfl, hC, hg⟩
        have HYN := Lib.hid (show y.size ≤ 100 from (show ∀ p ∈ ([⟨#[]⟩, ⟨#[65]⟩, ⟨#[97, 110, 110]⟩, ⟨#[97, 98, 99, 100, 101, 102, 103, 104, 105, 106, 107]⟩] : List ByteArray), p.size ≤ 100 by decide) y hy)
        have HX6 := Lib.hid (HX5.out.step hC hg)
        clear hC hg HX5 hy
        obtain ⟨c0, c1_, c2, c3⟩ := HX6.out.cells
        have ff := HX6.out.fro 1
        go_upto_region 29 with fail
        obtain ⟨W7, HW7, HX7⟩ : ∃ Wx, Hid (w6.setCell ⟨X, 1, none⟩ (.string y) = Wx) ∧ Hid (XS w B b (k + 32 + 1) A n cap zs g m c1 X ⟨t.id, y, t.skills, t.trips⟩ ts Wx) := ⟨_, Lib.hid rfl, Lib.hid (HX6.out.set 1 _ ⟨t.id, y, t.skills, t.trips⟩ rfl)⟩
        rw [HW7.out]
        clear HW7 HX6 c0 c1_ c2 c3 ff
        obtain ⟨c0, c1_, c2, c3⟩ := HX7.out.cells
        obtain ⟨y0, k0⟩ := HX7.out.at_ HL.out (j := r * 4) (by omega)
        obtain ⟨y1, k1⟩ := HX7.out.at_ HL.out (j := r * 4 + 1) (by omega)
        obtain ⟨y2, k2⟩ := HX7.out.at_ HL.out (j := r * 4 + 2) (by omega)
        obtain ⟨y3, k3⟩ := HX7.out.at_ HL.out (j := r * 4 + 3) (by omega)
        have f0 := HX7.out.gfro HL.out (r * 4)
        have f1 := HX7.out.gfro HL.out (r * 4 + 1)
        have f2 := HX7.out.gfro HL.out (r * 4 + 2)
        have f3 := HX7.out.gfro HL.out (r * 4 + 3)
        have HGO := Lib.hid ((HX7.out.1.put HL.out hrm (t := ⟨t.id, y, t.skills, t.trips⟩) (show okN ⟨t.id, y, t.skills, t.trips⟩ from HYN.out)).more (show k + 33 ≤ k + 100 by omega))
        have hgX := HX7.out.2.2.2
        go_wp2_with fail
        go_ret
        exact ⟨_, ts.set r ⟨t.id, y, t.skills, t.trips⟩, rfl, by rw [List.length_set, HL.out]; omega, HGO.out⟩
      by_cases q2 : q = 2
      · subst q2
        go_wp2_with fail
        refine (among_new B b (k + 32) A n cap zs w5 2 _ [-1, 16] (by omega) HX5.out.1.1 rfl (by decide) (by decide)).mono ?_
        rintro e w6 ⟨y, hy, rfl, hC, hg⟩
        have HX6 := Lib.hid (HX5.out.step hC hg)
        clear hC hg HX5 hy
        obtain ⟨c0, c1_, c2, c3⟩ := HX6.out.cells
        have ff := HX6.out.fro 2
        go_upto_region 29 with fail
        obtain ⟨W7, HW7, HX7⟩ : ∃ Wx, Hid (w6.setCell ⟨X, 2, none⟩ (.int .i64 y) = Wx) ∧ Hid (XS w B b (k + 32 + 1) A n cap zs g m c1 X ⟨t.id, t.name, y, t.trips⟩ ts Wx) := ⟨_, Lib.hid rfl, Lib.hid (HX6.out.set 2 _ ⟨t.id, t.name, y, t.trips⟩ rfl)⟩
        rw [HW7.out]
        clear HW7 HX6 c0 c1_ c2 c3 ff
        obtain ⟨c0, c1_, c2, c3⟩ := HX7.out.cells
        obtain ⟨y0, k0⟩ := HX7.out.at_ HL.out (j := r * 4) (by omega)
        obtain ⟨y1, k1⟩ := HX7.out.at_ HL.out (j := r * 4 + 1) (by omega)
        obtain ⟨y2, k2⟩ := HX7.out.at_ HL.out (j := r * 4 + 2) (by omega)
        obtain ⟨y3, k3⟩ := HX7.out.at_ HL.out (j := r * 4 + 3) (by omega)
        have f0 := HX7.out.gfro HL.out (r * 4)
        have f1 := HX7.out.gfro HL.out (r * 4 + 1)
        have f2 := HX7.out.gfro HL.out (r * 4 + 2)
        have f3 := HX7.out.gfro HL.out (r * 4 + 3)
        have HGO := Lib.hid ((HX7.out.1.put HL.out hrm (t := ⟨t.id, t.name, y, t.trips⟩) (show okN ⟨t.id, t.name, y, t.trips⟩ from HOT.out)).more (show k + 33 ≤ k + 100 by omega))
        have hgX := HX7.out.2.2.2
        go_wp2_with fail
        go_ret
        exact ⟨_, ts.set r ⟨t.id, t.name, y, t.trips⟩, rfl, by rw [List.length_set, HL.out]; omega, HGO.out⟩
      by_cases q3 : q = 3
      · subst q3
        go_wp2_with fail
        refine (among_new B b (k + 32) A n cap zs w5 2 _ [-1, 501] (by omega) HX5.out.1.1 rfl (by decide) (by decide)).mono ?_
        rintro e w6 ⟨y, hy, rfl, hC, hg⟩
        have HX6 := Lib.hid (HX5.out.step hC hg)
        clear hC hg HX5 hy
        obtain ⟨c0, c1_, c2, c3⟩ := HX6.out.cells
        have ff := HX6.out.fro 3
        go_upto_region 29 with fail
        obtain ⟨W7, HW7, HX7⟩ : ∃ Wx, Hid (w6.setCell ⟨X, 3, none⟩ (.int .i64 y) = Wx) ∧ Hid (XS w B b (k + 32 + 1) A n cap zs g m c1 X ⟨t.id, t.name, t.skills, y⟩ ts Wx) := ⟨_, Lib.hid rfl, Lib.hid (HX6.out.set 3 _ ⟨t.id, t.name, t.skills, y⟩ rfl)⟩
        rw [HW7.out]
        clear HW7 HX6 c0 c1_ c2 c3 ff
        obtain ⟨c0, c1_, c2, c3⟩ := HX7.out.cells
        obtain ⟨y0, k0⟩ := HX7.out.at_ HL.out (j := r * 4) (by omega)
        obtain ⟨y1, k1⟩ := HX7.out.at_ HL.out (j := r * 4 + 1) (by omega)
        obtain ⟨y2, k2⟩ := HX7.out.at_ HL.out (j := r * 4 + 2) (by omega)
        obtain ⟨y3, k3⟩ := HX7.out.at_ HL.out (j := r * 4 + 3) (by omega)
        have f0 := HX7.out.gfro HL.out (r * 4)
        have f1 := HX7.out.gfro HL.out (r * 4 + 1)
        have f2 := HX7.out.gfro HL.out (r * 4 + 2)
        have f3 := HX7.out.gfro HL.out (r * 4 + 3)
        have HGO := Lib.hid ((HX7.out.1.put HL.out hrm (t := ⟨t.id, t.name, t.skills, y⟩) (show okN ⟨t.id, t.name, t.skills, y⟩ from HOT.out)).more (show k + 33 ≤ k + 100 by omega))
        have hgX := HX7.out.2.2.2
        go_wp2_with fail
        go_ret
        exact ⟨_, ts.set r ⟨t.id, t.name, t.skills, y⟩, rfl, by rw [List.length_set, HL.out]; omega, HGO.out⟩
      by_cases q4 : q = 4
      · subst q4
        have HF := Lib.hid (HX5.out.1.fresh)
        clear HX5 HL HOT
        go_wp2_with fail
        go_loopw [3, 9] (fun v d wr => ∃ (p c2 : Nat) (A2 : Option Addr) (us : List Ps), d = .int .i64 (p : Nat) ∧ p ≤ 11 ∧ v = .slice A2 p c2 ∧ Hid (us.length = p) ∧ GS w B b (k + 32 + p) A n cap zs v us wr) (fun _ d _ => 11 - (intOf d).toNat)
        case atStart => exact ⟨0, 0, _, [], rfl, by decide, rfl, Lib.hid rfl, HF.out⟩
        case round =>
          obtain ⟨p, c2, A2, us, rfl, hp, rfl, HL, hS⟩ := hrel
          have HS8 := Lib.hid hS
          clear hS HF
          go_wp2_with fail
          refine (pick_any B b (k + 32 + p) A n cap zs _ 2 (by omega) HS8.out.1 (by decide) (by decide)).mono ?_
          rintro e w8 ⟨r2, rfl, hr2, hC, hg⟩
          have hr1 : r2 ≤ 1 := by omega
          have HS9 := Lib.hid (HS8.out.step hC hg)
          clear hC hg hr2 HS8
          by_cases hlt : p < 10 + r2
          · have hd1 : decide ((p : Int) < 10 + (r2 : Int)) = true := by simp; omega
            have hp10 : p ≤ 10 := by omega
            have hconv := conv_letter p (by omega) w8
            obtain ⟨nm, HNM⟩ : ∃ nm : ByteArray, Hid ((⟨#[UInt8.ofNat (97 + p)]⟩ : ByteArray) = nm) := ⟨_, Lib.hid rfl⟩
            have HNL := Lib.hid (show nm.size ≤ 100 by rw [← HNM.out]; exact (show 1 ≤ 100 by decide))
            rw [HNM.out] at hconv
            have HO9 := Lib.hid (show w8.ownsRow w.heap.size 41 4 (.slice A2 p c2) p (flatPs us) by have h := HS9.out.2.2.1; rw [HL.out] at h; exact h)
            have hs9 := HS9.out.2.1.size
            go_wp2_with (at_builtin; refine wpList_append_own _ rfl _ _ 24 rfl w.heap.size 41 j0 _ 4 40 Try.underlying24 kj kz0 kz1 kz2 rfl (by decide) _ _ _ rfl ((HO9.out.alloc _).alloc _) ⟨w8.heap.size + 1, 0, none⟩ 1 1 [.int .i64 ((p : Int) + 1), .string nm, .int .i64 ((p : Int) % 4), .int .i64 (3 * (p : Int))] rfl rfl (World.news_of_block (alloc_at (by simp))) (by simp [Value.oneCell']) (by unfold maxLen; omega) (by omega) (by simp; omega) ?_; intro v' w9 hown' hgrow _)
            obtain ⟨A9, c9, rfl⟩ := row_slice hown'
            have HS10 := Lib.hid ((((HS9.out.alloc _).alloc _).app (t := ⟨(p : Int) + 1, nm, (p : Int) % 4, 3 * (p : Int)⟩) HNL.out (by rw [HL.out]; exact hown') hgrow).more (show k + 32 + p + 1 ≤ k + 32 + (p + 1) by omega))
            clear hown' hgrow hconv HS9 HO9
            go_wp2_with fail
            go_roundw
            case rel => exact ⟨p + 1, c9, A9, us ++ [⟨(p : Int) + 1, nm, (p : Int) % 4, 3 * (p : Int)⟩], by go_num, by omega, rfl, Lib.hid (by rw [List.length_append, HL.out]; rfl), HS10.out⟩
            case measure => simp [intOf]; omega
          · have hd1 : decide ((p : Int) < 10 + (r2 : Int)) = false := by simp; omega
            have HS10 := Lib.hid (HS9.out.more (show k + 32 + p + 1 ≤ k + 100 by omega))
            clear HS9
            go_wp2_with fail
            go_ret
            exact ⟨_, us, rfl, by rw [HL.out]; exact hp, HS10.out⟩
      have d0 : ((q : Int) == 0) = false := by simp; omega
      have e0 : (q == 0) = false := by simpa using q0
      have d1 : ((q : Int) == 1) = false := by simp; omega
      have e1 : (q == 1) = false := by simpa using q1
      have d2 : ((q : Int) == 2) = false := by simp; omega
      have e2 : (q == 2) = false := by simpa using q2
      have d3 : ((q : Int) == 3) = false := by simp; omega
      have e3 : (q == 3) = false := by simpa using q3
      have d4 : ((q : Int) == 4) = false := by simp; omega
      have e4 : (q == 4) = false := by simpa using q4
      have HX7 := Lib.hid (show XS w B b (k + 33) A n cap zs g m c1 X t ts w5 from ⟨HX5.out.1.more (by omega), HX5.out.2⟩)
      clear HX5
      obtain ⟨c0, c1_, c2, c3⟩ := HX7.out.cells
      obtain ⟨y0, k0⟩ := HX7.out.at_ HL.out (j := r * 4) (by omega)
      obtain ⟨y1, k1⟩ := HX7.out.at_ HL.out (j := r * 4 + 1) (by omega)
      obtain ⟨y2, k2⟩ := HX7.out.at_ HL.out (j := r * 4 + 2) (by omega)
      obtain ⟨y3, k3⟩ := HX7.out.at_ HL.out (j := r * 4 + 3) (by omega)
      have f0 := HX7.out.gfro HL.out (r * 4)
      have f1 := HX7.out.gfro HL.out (r * 4 + 1)
      have f2 := HX7.out.gfro HL.out (r * 4 + 2)
      have f3 := HX7.out.gfro HL.out (r * 4 + 3)
      have HGO := Lib.hid ((HX7.out.1.put HL.out hrm (t := t) HOT.out).more (show k + 33 ≤ k + 100 by omega))
      have hgX := HX7.out.2.2.2
      go_wp2_with fail
      go_ret
      exact ⟨_, ts.set r t, rfl, by rw [List.length_set, HL.out]; omega, HGO.out⟩

end Go.Proofs.Ytidofckanadkpaa.dps

namespace Go.Proofs.Ytidofckanadkpaa.dps
open Go.RowKit
open reads base curs curd cure ty rowi
set_option linter.unusedVariables false
set_option linter.unusedSimpArgs false

/-- a list of Ids in the making, beside people -/
def IS (w : World) (B b k : Nat) (A : Option Addr) (n cap : Nat) (zs : List UInt8) (bs : Nat) (AL : Option Addr) (nl cl : Nat) (ts : List Ps) (v : Value) (xs : List Int) (u : World) : Prop :=
  Cur u B b k A n cap zs ∧ w.grownBy u (some b) ∧ u.ownsRow w.heap.size 3 1 v xs.length (ints.intsV xs) ∧ u.ownsRow bs 41 4 (.slice AL nl cl) nl (flatPs ts) ∧ b < w.heap.size ∧ B ≤ w.heap.size ∧ b < bs
section
variable {w u u' : World} {B b k k' : Nat} {A : Option Addr} {n cap : Nat} {zs : List UInt8} {bs : Nat} {AL : Option Addr} {nl cl : Nat} {ts : List Ps} {v v' : Value} {xs : List Int} {x : Int}
theorem IS.step (h : IS w B b k A n cap zs bs AL nl cl ts v xs u) (hC : Cur u' B b k' A n cap zs) (hg : u.grownBy u' (some b)) : IS w B b k' A n cap zs bs AL nl cl ts v xs u' :=
  ⟨hC, h.2.1.trans hg, own_step h.2.2.1 hg h.2.2.2.2.1, own_step h.2.2.2.1 hg h.2.2.2.2.2.2, h.2.2.2.2⟩
theorem IS.alloc (h : IS w B b k A n cap zs bs AL nl cl ts v xs u) (o : Obj) : IS w B b k A n cap zs bs AL nl cl ts v xs (u.alloc o) :=
  ⟨cur_alloc h.1 (by have := h.2.1.size; have := h.2.2.2.2.2.1; omega) o, h.2.1.trans (World.grownBy_alloc u o (some b)), h.2.2.1.alloc o, h.2.2.2.1.alloc o, h.2.2.2.2⟩
theorem IS.more (h : IS w B b k A n cap zs bs AL nl cl ts v xs u) (hk : k ≤ k') : IS w B b k' A n cap zs bs AL nl cl ts v xs u := ⟨cur_more h.1 k' hk, h.2⟩
theorem IS.app (h : IS w B b k A n cap zs bs AL nl cl ts v xs u) (ho : u'.ownsRow w.heap.size 3 1 v' (xs.length + 1) (ints.intsV xs ++ [.int .i64 x])) (hg : u.grownBy u' v.ownBlock) : IS w B b k A n cap zs bs AL nl cl ts v' (xs ++ [x]) u' := by
  obtain ⟨h1, h2, h3, h4, h5, h6, h7⟩ := h
  have hlo : ∀ g, v.ownBlock = some g → w.heap.size ≤ g := fun g e => (h3.lt g e).1
  obtain ⟨c1, c2, c3, pos, sd, c4, c5, c6, c7⟩ := h1
  have hs := h2.size
  refine ⟨⟨c1, c2.grown hg (by omega) (fun g e => by have := hlo g e; omega), c3, pos, sd, c4, c5, c6, c7.grown hg (fun e => by have := hlo _ e.symm; omega)⟩,
    ⟨hg.os.trans h2.os, hg.tape.trans h2.tape, hg.output.trans h2.output, Nat.le_trans h2.size hg.size, fun i hi hne => (hg.block i (by omega) (fun e => by have := hlo _ e.symm; omega)).trans (h2.block i hi hne)⟩, ?_, ?_, h5, h6, h7⟩
  · rw [List.length_append, List.length_singleton, intsV_app]; exact ho
  · refine h4.kept hg ?_
    rcases h3.2 with ⟨rfl, _⟩ | ⟨g', cap', cur', rfl, _, hg', _⟩
    · cases q : (Value.slice AL nl cl).ownBlock with
      | none => exact .inl rfl
      | some k => exact .inr (by simp [Value.ownBlock])
    · exact .inr (own_blk_ne (e := 41) h4 (t := 3) hg' (by decide))
/-- the first of them is written over -/
theorem IS.put {g L c : Nat} (h : IS w B b k A n cap zs bs AL nl cl ts (.slice (some ⟨g, 0, none⟩) L c) xs u) (hL : xs.length = L) : IS w B b k A n cap zs bs AL nl cl ts (.slice (some ⟨g, 0, none⟩) L c) (xs.set 0 x) (u.setCell ⟨g, 0, none⟩ (.int .i64 x)) := by
  obtain ⟨h1, h2, h3, h4, h5, h6, h7⟩ := h
  rw [hL] at h3
  have hg := (h3.lt g rfl).1
  have hne : (Value.slice AL nl cl).ownBlock ≠ some g := by
    rcases h3.2 with ⟨e, _⟩ | ⟨g', cap', cur', e, _, hg', _⟩
    · cases e
    · injection e with e1 e2 e3; injection e1 with e1; injection e1 with e1; subst e1
      exact own_blk_ne (e := 41) h4 (t := 3) hg' (by decide)
  refine ⟨cur_set h1 (by show b ≠ g; omega) (by show B ≤ g; omega) _, cure.grown_set h2 hg _, ?_, h4.kept (row := some g) (grown_cell ⟨rfl, rfl, rfl, Nat.le_refl _, fun _ _ _ => rfl⟩ _ _) (.inr hne), h5, h6, h7⟩
  rw [List.length_set, hL, show ints.intsV (xs.set 0 x) = (ints.intsV xs).set 0 (.int .i64 x) by simp [ints.intsV, List.map_set]]
  exact (h3.stored 0 _).1
end
/-- drawn Ids -/
def TmPo (B b k : Nat) (A : Option Addr) (n cap : Nat) (zs : List UInt8) (bs : Nat) (AL : Option Addr) (nl cl : Nat) (ts : List Ps) (w : World) (e : Ending) (w' : World) : Prop :=
  ∃ (v : Value) (xs : List Int), e = .returned v ∧ xs.length ≤ 12 ∧ IS w B b k A n cap zs bs AL nl cl ts v xs w'
set_option maxHeartbeats 8000000 in
set_option maxRecDepth 100000 in
theorem team_any (B b k : Nat) (A : Option Addr) (n cap : Nat) (zs : List UInt8) (bs : Nat) (AL : Option Addr) (nl cl : Nat) (ts : List Ps) (w : World) (hk : k ≤ 50000) (hnl : nl ≤ 11) (hT : Hid (ts.length = nl)) (hbs : b < bs) (h : Hid (Cur w B b k A n cap zs)) (hrow : Hid (w.ownsRow bs 41 4 (.slice AL nl cl) nl (flatPs ts))) :
    Calls Try.prog 76 #[.pointer (some ⟨b, 0, none⟩), .slice AL nl cl] w (TmPo B b (k + 20) A n cap zs bs AL nl cl ts w) := by
  obtain ⟨i0, hi, hz0, hz1, hz2⟩ := info_parts infoI
  have hbl := cur_lt h.out
  have hBB : B ≤ w.heap.size := by have := h.out.1; omega
  have HS0 := Lib.hid (show IS w B b k A n cap zs bs AL nl cl ts (.slice (some ⟨w.heap.size, 0, none⟩) 0 0) [] (w.alloc (.cells #[] 3)) from
    ⟨cur_alloc h.out hBB _, World.grownBy_alloc w _ (some b), World.ownsRow_made w #[] 0 (Nat.le_refl _) (by decide) (by simp), hrow.out.alloc _, hbl, hBB, hbs⟩)
  clear hbs h hrow
  go_enter Try.func76, Try.ntmps76
  go_wp2_with fail
  go_loopw [5, 6] (fun v i wr => ∃ (j m c1 : Nat) (A1 : Option Addr) (xs : List Int), i = .int .i64 (j : Nat) ∧ j ≤ nl ∧ m ≤ j ∧ v = .slice A1 m c1 ∧ Hid (xs.length = m) ∧ IS w B b (k + j) A n cap zs bs AL nl cl ts v xs wr) (fun _ i _ => nl - (intOf i).toNat)
  case atStart => exact ⟨0, 0, 0, _, [], rfl, by omega, by omega, rfl, Lib.hid rfl, HS0.out⟩
  case round =>
    obtain ⟨j, m, c1, A1, xs, rfl, hj, hmj, rfl, HL, hS⟩ := hrel
    have HS := Lib.hid hS
    clear hS HS0
    by_cases hlt : j < nl
    · have hji : (j : Int) < (nl : Int) := by omega
      have hj0 : (0 : Int) ≤ (j : Int) := by omega
      have hjd : decide (j < nl) = true := by simpa using hlt
      go_wp2_with fail
      refine (one_any B b (k + j) A n cap zs _ 2 (by omega) HS.out.1 (by decide) (by decide)).mono ?_
      rintro e w2 ⟨t1, rfl, hC, hg⟩
      have HS2 := Lib.hid (HS.out.step hC hg)
      clear hC hg HS
      cases t1
      · have HS3 := Lib.hid (HS2.out.more (show k + j + 1 ≤ k + (j + 1) by omega))
        go_wp2_with fail
        go_roundw
        case rel => exact ⟨j + 1, m, c1, A1, xs, by go_num, by omega, by omega, rfl, HL, HS3.out⟩
        case measure => simp [intOf]; omega
      · obtain ⟨t, htk⟩ := at_lt hT.out hlt
        have hPs := own_Ps hT.out HS2.out.2.2.2.1
        obtain ⟨g, rfl, hgl, h0, h1, h2, h3⟩ := hPs.2 j t htk
        have HO2 := Lib.hid (show w2.ownsRow w.heap.size 3 1 (.slice A1 m c1) m (ints.intsV xs) by have h := HS2.out.2.2.1; rw [HL.out] at h; exact h)
        have hs2 := HS2.out.2.1.size
        clear hPs htk h1 h2 h3
        go_wp2_with (at_builtin; refine wpList_append_own _ rfl _ _ 27 rfl w.heap.size 3 i0 (.int .i64 0) 1 8 Try.underlying27 hi hz0 hz1 hz2 rfl (by decide) _ _ _ rfl (HO2.out.alloc _) ⟨w2.heap.size, 0, none⟩ 1 1 [.int .i64 t.id] rfl rfl (cell_one_new _ _ _) (by simp [Value.oneCell']) (by unfold maxLen; omega) (by omega) (by simp; omega) ?_; intro v' w3 hown' hgrow _)
        obtain ⟨A9, c9, rfl⟩ := row_slice hown'
        have HS3 := Lib.hid (((HS2.out.alloc _).app (x := t.id) (by rw [HL.out]; exact hown') hgrow).more (show k + j + 1 ≤ k + (j + 1) by omega))
        clear hown' hgrow HS2 HO2
        go_wp2_with fail
        go_roundw
        case rel => exact ⟨j + 1, m + 1, c9, A9, xs ++ [t.id], by go_num, by omega, by omega, rfl, Lib.hid (by rw [List.length_append, HL.out]; rfl), HS3.out⟩
        case measure => simp [intOf]; omega
    · have hjd : decide (j < nl) = false := by simpa using hlt
      obtain rfl : j = nl := by omega
      have HS1 := Lib.hid (HS.out.more (show k + j ≤ k + 11 by omega))
      clear HS hlt
      go_wp2_with fail
      refine (pick_any B b (k + 11) A n cap zs _ 24 (by omega) HS1.out.1 (by decide) (by decide)).mono ?_
      rintro e w4 ⟨q, rfl, hq24, hC, hg⟩
      have HS4 := Lib.hid (HS1.out.step hC hg)
      clear hC hg HS1 hq24
      by_cases q0 : q = 0
      · subst q0
        go_wp2_with fail
        refine (among_new B b (k + 12) A n cap zs w4 3 _ [0, 1, 98] (by omega) HS4.out.1 rfl (by decide) (by decide)).mono ?_
        rintro e w5 ⟨y, hy, rfl, hC, hg⟩
        have HS5 := Lib.hid (HS4.out.step hC hg)
        clear hC hg HS4 hy
        have HO5 := Lib.hid (show w5.ownsRow w.heap.size 3 1 (.slice A1 m c1) m (ints.intsV xs) by have h := HS5.out.2.2.1; rw [HL.out] at h; exact h)
        have hs5 := HS5.out.2.1.size
        go_wp2_with (at_builtin; refine wpList_append_own _ rfl _ _ 27 rfl w.heap.size 3 i0 (.int .i64 0) 1 8 Try.underlying27 hi hz0 hz1 hz2 rfl (by decide) _ _ _ rfl (HO5.out.alloc _) ⟨w5.heap.size, 0, none⟩ 1 1 [.int .i64 y] rfl rfl (cell_one_new _ _ _) (by simp [Value.oneCell']) (by unfold maxLen; omega) (by omega) (by simp; omega) ?_; intro v' w6 hown' hgrow _)
        obtain ⟨A9, c9, rfl⟩ := row_slice hown'
        have HS6 := Lib.hid (((HS5.out.alloc _).app (x := y) (by rw [HL.out]; exact hown') hgrow).more (show k + 12 + 1 ≤ k + 20 by omega))
        clear hown' hgrow HS5 HO5
        go_wp2_with fail
        go_ret
        exact ⟨_, xs ++ [y], rfl, by rw [List.length_append, HL.out]; simp; omega, HS6.out⟩
      have d0 : ((q : Int) == 0) = false := by simp; omega
      have e0 : (q == 0) = false := by simpa using q0
      have HS6 := Lib.hid (HS4.out.more (show k + 11 + 1 ≤ k + 20 by omega))
      clear HS4
      by_cases q1 : q = 1
      · subst q1
        by_cases hm : 1 < m
        · have hmd : decide (1 < m) = true := by simpa using hm
          have hmi : (1 : Int) < (m : Int) := by omega
          have hm0 : (0 : Int) < (m : Int) := by omega
          obtain ⟨g, cap', hv, hgb, -⟩ := (HS6.out.2.2.1).form (by rw [HL.out]; omega)
          injection hv with hA hn2 hc2
          subst hA
          clear hc2 hn2
          have hrow := HS6.out.2.2.1
          rw [HL.out] at hrow
          obtain ⟨x, hx⟩ := at_lt HL.out hm
          have h1 : w4.cell? ⟨g, 1, none⟩ = some (.int .i64 x) := by
            rw [hrow.cellAt 1 (by omega)]
            simp [ints.intsV, hx]
          obtain ⟨y, h0⟩ : ∃ y, w4.cell? ⟨g, 0, none⟩ = some y := ⟨_, (hrow.cellAt 0 (by omega)).trans (List.getElem?_eq_getElem (by rw [ints.intsV_len, HL.out]; omega))⟩
          have f0 := hrow.frozenAt 0
          have HP := Lib.hid (HS6.out.put (x := x) HL.out)
          clear hrow hx
          go_wp2_with fail
          go_ret
          exact ⟨_, xs.set 0 x, rfl, by rw [List.length_set, HL.out]; omega, HP.out⟩
        · have hmd : decide (1 < m) = false := by simpa using hm
          have hmi : ¬ (1 : Int) < (m : Int) := by omega
          go_wp2_with fail
          go_ret
          exact ⟨_, xs, rfl, by rw [HL.out]; omega, HS6.out⟩
      have d1 : ((q : Int) == 1) = false := by simp; omega
      have e1 : (q == 1) = false := by simpa using q1
      go_wp2_with fail
      go_ret
      exact ⟨_, xs, rfl, by rw [HL.out]; omega, HS6.out⟩
/-- a drawn number of skills -/
theorem skills_any (B b k : Nat) (A : Option Addr) (n cap : Nat) (zs : List UInt8) (w : World) (hk : k ≤ 50000) (h : Hid (Cur w B b k A n cap zs)) :
    Calls Try.prog 77 #[.pointer (some ⟨b, 0, none⟩)] w (DPost B b (k + 2) A n cap zs (-1) 16 w) := by
  have hbl := cur_lt h.out
  have hBB : B ≤ w.heap.size := by have := h.out.1; omega
  obtain ⟨W1, HW1, HC1, HB1⟩ : ∃ Wx, Hid (w.alloc (.cells #[.int .i64 0, .int .i64 1, .int .i64 3, .int .i64 4, .int .i64 7, .int .i64 8, .int .i64 15, .int .i64 (-1), .int .i64 16] 3) = Wx) ∧ Hid (Cur Wx B b k A n cap zs) ∧ Hid (Blk Wx w.heap.size 3 #[.int .i64 0, .int .i64 1, .int .i64 3, .int .i64 4, .int .i64 7, .int .i64 8, .int .i64 15, .int .i64 (-1), .int .i64 16]) := ⟨_, Lib.hid rfl, Lib.hid (cur_alloc h.out hBB _), Lib.hid (Blk.new _ _ _)⟩
  have HG0 := Lib.hid (show w.grownBy W1 (some b) by rw [← HW1.out]; exact World.grownBy_alloc w _ (some b))
  go_enter Try.func77, Try.ntmps77
  go_wp2_with fail
  rw [HW1.out]
  refine (pick_any B b k A n cap zs _ 24 (by omega) HC1.out (by decide) (by decide)).mono ?_
  rintro e w1 ⟨r, rfl, hr, hC, hg⟩
  obtain ⟨q, hq⟩ : ∃ q : Nat, (r : Int).tdiv 11 = (q : Int) := ⟨r / 11, by rw [Int.tdiv_eq_ediv_of_nonneg (by omega)]; omega⟩
  have hq2 : q ≤ 2 := by
    have : (r : Int).tdiv 11 ≤ 2 := by rw [Int.tdiv_eq_ediv_of_nonneg (by omega)]; omega
    omega
  have HC2 := Lib.hid hC
  have HG2 := Lib.hid (HG0.out.trans hg)
  have HB2 := Lib.hid (HB1.out.grown hg (by intro e; injection e with e; omega))
  clear hC hg HG0 HB1 HC1 HW1 h
  have hw : (7 : Int) + (r : Int).tdiv 11 = ((7 + q : Nat) : Int) := by rw [hq]; omega
  go_wp2_with fail
  refine (among_pre B b (k + 1) A n cap zs _ w.heap.size (7 + q) _ [0, 1, 3, 4, 7, 8, 15, -1, 16] (by omega) HC2.out HB2.out (by omega) (by simp; omega) (by omega) (by omega)).mono ?_
  rintro e w2 ⟨x, hx, rfl, hC, hg⟩
  have hb : -1 ≤ x ∧ x ≤ 16 := by simp at hx; omega
  have HC3 := Lib.hid hC
  have HG3 := Lib.hid (HG2.out.trans hg)
  clear hC hg HC2 HG2 HB2 hx
  go_wp2_with fail
  go_ret
  exact ⟨x, rfl, hb.1, hb.2, HC3.out, HG3.out⟩
/-- drawn people, behind their function -/
def Peo (w : World) (v : Value) (ts : List Ps) (w' : World) : Prop := w'.ownsRow w.heap.size 41 4 v ts.length (flatPs ts) ∧ ts.length ≤ 11 ∧ (∀ t ∈ ts, t.name.size ≤ 100) ∧ Below w.heap.size w w'
def PPo (w : World) (e : Ending) (w' : World) : Prop := ∃ (v : Value) (ts : List Ps), e = .returned v ∧ Peo w v ts w'
def PQPo (w : World) (e : Ending) (w' : World) : Prop := ∃ (v : Value) (ts : List Ps) (q : Int), e = .returned (.tuple #[v, .int .i64 q]) ∧ (-1 ≤ q ∧ q ≤ 16) ∧ Peo w v ts w'
def PTPo (w : World) (e : Ending) (w' : World) : Prop := ∃ (v : Value) (ts : List Ps) (u : Value) (xs : List Int), e = .returned (.tuple #[v, u]) ∧ w'.ownsRow w.heap.size 3 1 u xs.length (ints.intsV xs) ∧ xs.length ≤ 12 ∧ Peo w v ts w'
def PTQPo (w : World) (e : Ending) (w' : World) : Prop := ∃ (v : Value) (ts : List Ps) (u : Value) (xs : List Int) (q : Int), e = .returned (.tuple #[v, u, .int .i64 q]) ∧ (-1 ≤ q ∧ q ≤ 16) ∧ w'.ownsRow w.heap.size 3 1 u xs.length (ints.intsV xs) ∧ xs.length ≤ 12 ∧ Peo w v ts w'
set_option maxHeartbeats 4000000 in
set_option maxRecDepth 100000 in
theorem people_draw (A : Option Addr) (n cap : Nat) (zs : List UInt8) (w : World) (h : Hid (curs.Code w A n zs)) : Calls Try.prog 80 #[.slice A n cap] w (PPo w) := by
  have HC0 := Lib.hid (cur_new cap h.out)
  go_enter Try.func80, Try.ntmps80
  go_wp2_with fail
  refine (people_any w.heap.size w.heap.size 0 A n cap zs _ (by omega) HC0).mono ?_
  rintro e w1 ⟨v, ts, rfl, hl, hG⟩
  have HG := Lib.hid hG
  clear hG
  go_wp2_with fail
  go_ret
  exact ⟨v, ts, rfl, own_base (by simp) HG.out.2.2.1, hl, HG.out.2.2.2.1, low HG.out.2.1⟩
theorem split_draw (A : Option Addr) (n cap : Nat) (zs : List UInt8) (w : World) (h : Hid (curs.Code w A n zs)) : Calls Try.prog 32 #[.slice A n cap] w (PPo w) := by
  go_enter Try.func32, Try.ntmps32
  go_wp2_with fail
  refine (people_draw A n cap zs _ h).mono ?_
  rintro e w1 ⟨v, ts, rfl, hP⟩
  have HP := Lib.hid hP
  clear hP
  go_wp2_with fail
  go_ret
  exact ⟨v, ts, rfl, HP.out⟩
set_option maxHeartbeats 4000000 in
set_option maxRecDepth 100000 in
theorem withSkills_draw (A : Option Addr) (n cap : Nat) (zs : List UInt8) (w : World) (h : Hid (curs.Code w A n zs)) : Calls Try.prog 38 #[.slice A n cap] w (PQPo w) := by
  have HC0 := Lib.hid (cur_new cap h.out)
  go_enter Try.func38, Try.ntmps38
  go_wp2_with fail
  refine (people_any w.heap.size w.heap.size 0 A n cap zs _ (by omega) HC0).mono ?_
  rintro e w1 ⟨v, ts, rfl, hl, hG⟩
  have HG := Lib.hid hG
  clear hG
  go_wp2_with fail
  refine (skills_any w.heap.size w.heap.size (0 + 100) A n cap zs _ (by omega) (Lib.hid HG.out.1)).mono ?_
  rintro e w2 ⟨q, rfl, hq0, hq1, hC, hg⟩
  have HG2 := Lib.hid (HG.out.step hC hg)
  clear hC hg HG
  go_wp2_with fail
  go_ret2
  exact ⟨v, ts, q, rfl, ⟨hq0, hq1⟩, own_base (by simp) HG2.out.2.2.1, hl, HG2.out.2.2.2.1, low HG2.out.2.1⟩
set_option maxHeartbeats 4000000 in
set_option maxRecDepth 100000 in
theorem isTeam_draw (A : Option Addr) (n cap : Nat) (zs : List UInt8) (w : World) (h : Hid (curs.Code w A n zs)) : Calls Try.prog 70 #[.slice A n cap] w (PTPo w) := by
  have HC0 := Lib.hid (cur_new cap h.out)
  go_enter Try.func70, Try.ntmps70
  go_wp2_with fail
  refine (people_any w.heap.size w.heap.size 0 A n cap zs _ (by omega) HC0).mono ?_
  rintro e w1 ⟨v, ts, rfl, hl, hG⟩
  obtain ⟨L, hL⟩ : ∃ L, Hid (ts.length = L) := ⟨_, Lib.hid rfl⟩
  have hrow := hG.2.2.1
  rw [hL.out] at hrow hl
  obtain ⟨AL, cl, rfl⟩ := row_slice hrow
  have HG := Lib.hid hG
  have HR := Lib.hid (own_base (base' := w.heap.size + 1) (by simp) hrow)
  have hz := hG.2.1.size
  have HW := Lib.hid (show w.heap.size ≤ w1.heap.size by simp at hz; omega)
  clear hG hrow hz
  go_wp2_with fail
  refine (team_any w.heap.size w.heap.size (0 + 100) A n cap zs (w.heap.size + 1) AL L cl ts _ (by omega) hl hL (by omega) (Lib.hid HG.out.1) HR).mono ?_
  rintro e w2 ⟨u, xs, rfl, hxl, hI⟩
  have HI := Lib.hid hI
  have HB2 := Lib.hid (low (HG.out.2.1.trans hI.2.1))
  clear hI
  go_wp2_with fail
  go_ret2
  exact ⟨_, ts, u, xs, rfl, own_base HW.out HI.out.2.2.1, hxl, by rw [hL.out]; exact own_base (by omega) HI.out.2.2.2.1, by rw [hL.out]; exact hl, HG.out.2.2.2.1, HB2.out⟩
set_option maxHeartbeats 4000000 in
set_option maxRecDepth 100000 in
theorem missing_draw (A : Option Addr) (n cap : Nat) (zs : List UInt8) (w : World) (h : Hid (curs.Code w A n zs)) : Calls Try.prog 27 #[.slice A n cap] w (PTQPo w) := by
  have HC0 := Lib.hid (cur_new cap h.out)
  go_enter Try.func27, Try.ntmps27
  go_wp2_with fail
  refine (people_any w.heap.size w.heap.size 0 A n cap zs _ (by omega) HC0).mono ?_
  rintro e w1 ⟨v, ts, rfl, hl, hG⟩
  obtain ⟨L, hL⟩ : ∃ L, Hid (ts.length = L) := ⟨_, Lib.hid rfl⟩
  have hrow := hG.2.2.1
  rw [hL.out] at hrow hl
  obtain ⟨AL, cl, rfl⟩ := row_slice hrow
  have HG := Lib.hid hG
  have HR := Lib.hid (own_base (base' := w.heap.size + 1) (by simp) hrow)
  have hz := hG.2.1.size
  have HW := Lib.hid (show w.heap.size ≤ w1.heap.size by simp at hz; omega)
  clear hG hrow hz
  go_wp2_with fail
  refine (team_any w.heap.size w.heap.size (0 + 100) A n cap zs (w.heap.size + 1) AL L cl ts _ (by omega) hl hL (by omega) (Lib.hid HG.out.1) HR).mono ?_
  rintro e w2 ⟨u, xs, rfl, hxl, hI⟩
  have HI := Lib.hid hI
  have HB2 := Lib.hid (HG.out.2.1.trans hI.2.1)
  clear hI
  go_wp2_with fail
  refine (skills_any w.heap.size w.heap.size (0 + 100 + 20) A n cap zs _ (by omega) (Lib.hid HI.out.1)).mono ?_
  rintro e w3 ⟨q, rfl, hq0, hq1, hC, hg⟩
  have HI3 := Lib.hid (HI.out.step hC hg)
  have HB3 := Lib.hid (low (HB2.out.trans hg))
  clear hC hg HI HB2
  go_wp2_with fail
  go_ret3
  exact ⟨_, ts, u, xs, q, rfl, ⟨hq0, hq1⟩, own_base HW.out HI3.out.2.2.1, hxl, by rw [hL.out]; exact own_base (by omega) HI3.out.2.2.2.1, by rw [hL.out]; exact hl, HG.out.2.2.2.1, HB3.out⟩
theorem smallestTeam_draw (A : Option Addr) (n cap : Nat) (zs : List UInt8) (w : World) (h : Hid (curs.Code w A n zs)) : Calls Try.prog 15 #[.slice A n cap] w (PQPo w) := by
  go_enter Try.func15, Try.ntmps15
  go_wp2_with fail
  refine (withSkills_draw A n cap zs _ h).mono ?_
  rintro e w1 ⟨v, ts, q, rfl, hq, hP⟩
  have HP := Lib.hid hP
  clear hP
  go_wp2_with fail
  go_ret2
  exact ⟨v, ts, q, rfl, hq, HP.out⟩
theorem goOnTrip_draw (A : Option Addr) (n cap : Nat) (zs : List UInt8) (w : World) (h : Hid (curs.Code w A n zs)) : Calls Try.prog 21 #[.slice A n cap] w (PTPo w) := by
  go_enter Try.func21, Try.ntmps21
  go_wp2_with fail
  refine (isTeam_draw A n cap zs _ h).mono ?_
  rintro e w1 ⟨v, ts, u, xs, rfl, hu, hx, hP⟩
  have HP := Lib.hid hP
  have HU := Lib.hid hu
  clear hu
  clear hP
  go_wp2_with fail
  go_ret2
  exact ⟨v, ts, u, xs, rfl, HU.out, hx, HP.out⟩
theorem skillsOf_draw (A : Option Addr) (n cap : Nat) (zs : List UInt8) (w : World) (h : Hid (curs.Code w A n zs)) : Calls Try.prog 41 #[.slice A n cap] w (PTPo w) := by
  go_enter Try.func41, Try.ntmps41
  go_wp2_with fail
  refine (isTeam_draw A n cap zs _ h).mono ?_
  rintro e w1 ⟨v, ts, u, xs, rfl, hu, hx, hP⟩
  have HP := Lib.hid hP
  have HU := Lib.hid hu
  clear hu
  clear hP
  go_wp2_with fail
  go_ret2
  exact ⟨v, ts, u, xs, rfl, HU.out, hx, HP.out⟩
end Go.Proofs.Ytidofckanadkpaa.dps
