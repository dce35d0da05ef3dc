/-
  VerifyChecksum of the program and of the model.
  Conditions: texts of at most 1048576 bytes; the library's table is there, as the row's list says.
-/
import Derived.Test.YthpmgapgjfabgaaDoorSeal
import Derived.Test.YthpmgapgjfabgaaDoorSplitM
namespace Go.Proofs.YthpmgapgjfabgaaDoor.verc
open Go.RowKit
open Sums strmath reads iterc splitc splitm sealc
set_option linter.unusedVariables false

theorem head_no (c : UInt8) (l : List UInt8) : ∀ p r, pieces c l = p :: r → c ∉ p := by
  induction l with
  | nil => intro p r h; simp [pieces] at h; rw [h.1]; simp
  | cons x l ih =>
    intro p r h
    rw [pieces] at h
    by_cases hx : x = c
    · rw [if_pos hx] at h
      injection h with h1 h2
      rw [← h1]; simp
    · rw [if_neg hx] at h
      cases hp : pieces c l with
      | nil => exact absurd hp (pieces_ne c l)
      | cons q t =>
        rw [hp] at h
        injection h with h1 h2
        rw [← h1]
        have := ih q t hp
        intro hm
        rcases List.mem_cons.1 hm with e | e
        · exact hx e.symm
        · exact this e

/-- the first piece of a text -/
def first (s : ByteArray) : ByteArray := (pcs 35 s.data.toList).headD ⟨#[]⟩
theorem first_eq (s : ByteArray) : ∃ r, pcs 35 s.data.toList = first s :: r := by
  cases h : pcs 35 s.data.toList with
  | nil => have := pcs_ne 35 s.data.toList; rw [h] at this; simp at this
  | cons p r => exact ⟨r, by simp [first, h]⟩
theorem first_no (s : ByteArray) : has (first s).data.toList 35 = false := by
  obtain ⟨r, h⟩ := first_eq s
  rw [has_no]
  unfold pcs at h
  cases hp : pieces 35 s.data.toList with
  | nil => exact absurd hp (pieces_ne _ _)
  | cons p t =>
    rw [hp, List.map_cons] at h
    injection h with h1 h2
    rw [← h1]
    exact head_no 35 _ p t hp
/-- a text that is sealed -/
def okVer (s : ByteArray) : Prop := sealed (first s).data.toList = s.data.toList
theorem ver_len (s : ByteArray) (h : okVer s) : (pcs 35 s.data.toList).length = 2 := by
  have h1 : s.data.toList = (first s).data.toList ++ 35 :: Lib.itoa (ck (first s).data.toList) := h.symm
  have h2 := (has_no _ _).1 (first_no s)
  have h3 := (has_no _ _).1 (itoa_no (ck (first s).data.toList) (ck_bd _).1)
  have e : pieces 35 s.data.toList = [(first s).data.toList, Lib.itoa (ck (first s).data.toList)] := by
    rw [h1, pieces_hit 35 _ _ h2, pieces_end 35 _ h3]
  rw [pcs, e]; rfl
theorem ver_ok (s : ByteArray) (hs : s.size ≤ 4000) (h : okVer s) : okSeal (first s) = true := by
  have hl := congrArg List.length h
  have hn := (sealed_len (first s).data.toList).1
  have l1 : s.data.toList.length = s.size := rfl
  have l2 : (first s).data.toList.length = (first s).size := rfl
  simp [okSeal, first_no s]
  omega
theorem first_size (s : ByteArray) (hs : s.size ≤ 4000) : (first s).size ≤ 4000 := by
  obtain ⟨r, h⟩ := first_eq s
  have key : ∀ (l : List UInt8) (p : List UInt8) (t : List (List UInt8)), pieces 35 l = p :: t → p.length ≤ l.length := by
    intro l
    induction l with
    | nil => intro p t h; simp [pieces] at h; rw [h.1]; simp
    | cons x l ih =>
      intro p t h
      rw [pieces] at h
      by_cases hx : x = 35
      · rw [if_pos hx] at h
        injection h with h1 h2
        rw [← h1]; simp
      · rw [if_neg hx] at h
        cases hp : pieces 35 l with
        | nil => exact absurd hp (pieces_ne _ _)
        | cons q t' =>
          rw [hp] at h
          injection h with h1 h2
          rw [← h1]
          have := ih q t' hp
          simp; omega
  unfold pcs at h
  cases hp : pieces 35 s.data.toList with
  | nil => exact absurd hp (pieces_ne _ _)
  | cons p t =>
    rw [hp, List.map_cons] at h
    injection h with h1 h2
    have := key _ p t hp
    have l1 : s.data.toList.length = s.size := rfl
    have l2 : (⟨p.toArray⟩ : ByteArray).size = p.length := rfl
    rw [← h1, l2]; omega

/-- what it answers -/
def VAns (s : ByteArray) (e : Ending) : Prop :=
  ((s.size ≤ 4000 ∧ okVer s) ∧ e = .returned (.tuple #[.string (first s), .bool true])) ∨ (¬ (s.size ≤ 4000 ∧ okVer s) ∧ e = .returned (.tuple #[.string ⟨#[]⟩, .bool false]))

/-- a row that is owned, at its first place -/
theorem own_first {w : World} {base : Nat} {v : Value} {p : ByteArray} {r : List ByteArray} {n : Nat} (h : w.ownsRow base 9 1 v n (strs (p :: r))) (hn : n = (p :: r).length) :
    ∃ g cap, v = .slice (some ⟨g, 0, none⟩) n cap ∧ w.cell? ⟨g, 0, none⟩ = some (.string p) := by
  obtain ⟨g, cap, hv, _, _⟩ := h.form (by rw [hn]; simp)
  subst hv
  refine ⟨g, cap, rfl, ?_⟩
  have := h.cells (g := g) rfl 0 (.string p) (by simp [strs])
  simpa [Addr.add] using this

set_option maxHeartbeats 1000000 in
/-- VerifyChecksum of the model -/
theorem model_any (s : ByteArray) (w : World) (hs : s.size ≤ 1048576) :
    Calls Tryd.prog 20 #[.string s] w fun e w' => VAns s e ∧ Below w.heap.size w w' := by
  by_cases h1 : 4000 < s.size
  · go_enter Tryd.func20, Tryd.ntmps20
    go_wp2_with fail
    go_ret2
    exact ⟨.inr ⟨by omega, rfl⟩, Below.refl _ _⟩
  · have h1' : s.size ≤ 4000 := by omega
    have hf := first_size s h1'
    have HC := Lib.hid (fun W => l1Split_any s 35 h1' W)
    have HD := Lib.hid (fun W => seal_any (first s) W (by omega))
    by_cases hq : okVer s
    · have b1 : (sealed (first s).data.toList == s.toList) = true := by rw [ByteArray.toList_eq, show sealed (first s).data.toList = s.data.toList from hq]; simp
      have HQ := Lib.hid hq
      clear hq h1
      go_enter Tryd.func20, Tryd.ntmps20
      go_wp2_with fail
      refine (HC.out _).mono ?_
      rintro e w1 ⟨v, rfl, hown, b1'⟩
      obtain ⟨r, hr⟩ := first_eq s
      rw [hr] at hown
      obtain ⟨g, cap, rfl, hc⟩ := own_first hown rfl
      clear hown hr
      go_wp2_with fail
      refine (HD.out _).mono ?_
      rintro e w2 ⟨rfl, m, rfl⟩
      go_wp2_with fail
      go_ret2
      exact ⟨.inl ⟨⟨h1', HQ.out⟩, rfl⟩, ends.below_drewN b1' m⟩
    · have b1 : (sealed (first s).data.toList == s.toList) = false := by
          have h : ¬ sealed (first s).data.toList = s.data.toList := hq
          rw [ByteArray.toList_eq]; simpa using h
      have HQ := Lib.hid hq
      clear hq h1
      go_enter Tryd.func20, Tryd.ntmps20
      go_wp2_with fail
      refine (HC.out _).mono ?_
      rintro e w1 ⟨v, rfl, hown, b1'⟩
      obtain ⟨r, hr⟩ := first_eq s
      rw [hr] at hown
      obtain ⟨g, cap, rfl, hc⟩ := own_first hown rfl
      clear hown hr
      go_wp2_with fail
      refine (HD.out _).mono ?_
      rintro e w2 ⟨rfl, m, rfl⟩
      go_wp2_with fail
      go_ret2
      exact ⟨.inr ⟨fun h => HQ.out h.2, rfl⟩, ends.below_drewN b1' m⟩

set_option maxHeartbeats 1000000 in
/-- VerifyChecksum of the program -/
theorem impl_any (s : ByteArray) (w : World) (hs : s.size ≤ 1048576) (hT : Lib.TabIs Tryd.prog w "internal/strconv.uint64pow10" .u64 Lib.pow10Tab) :
    Calls Tryd.prog 18 #[.string s] w fun e w' => VAns s e ∧ Below w.heap.size w w' := by
  have HT := Lib.hid hT
  clear hT
  by_cases h1 : 4000 < s.size
  · go_enter Tryd.func18, Tryd.ntmps18
    go_wp2_with fail
    refine (split_bad s _ _ hs (by decide) (.inl h1)).mono ?_
    rintro e w1 ⟨rfl, rfl⟩
    go_wp2_with fail
    go_ret2
    exact ⟨.inr ⟨by omega, rfl⟩, (Below.refl _ _).alloc (Nat.le_refl _) _⟩
  · have h1' : s.size ≤ 4000 := by omega
    have hf := first_size s h1'
    have HC := Lib.hid (fun W => split_any s 35 h1' W)
    have HD := Lib.hid (fun W hW => sealc.impl_any (first s) W (by omega) hW)
    obtain ⟨n, HN⟩ : ∃ n, Hid ((pcs 35 s.data.toList).length = n) := ⟨_, Lib.hid rfl⟩
    have hn : n ≤ 4001 := by rw [← HN.out]; exact pcs_len 35 s h1'
    by_cases h2 : n = 2
    · have b2 : ((n : Int) != 2) = false := by simp; omega
      have b22 : (n != 2) = false := by simp [h2]
      have H2 := Lib.hid h2
      clear h2 h1
      by_cases hq : okVer s
      · have b1 : (sealed (first s).data.toList == s.toList) = true := by rw [ByteArray.toList_eq, show sealed (first s).data.toList = s.data.toList from hq]; simp
        have HQ := Lib.hid hq
        have HK := Lib.hid (ver_ok s h1' hq)
        have hn0 : (0 : Int) < (n : Int) := by have := H2.out; omega
        clear hq
        go_enter Tryd.func18, Tryd.ntmps18
        go_wp2_with fail
        refine (HC.out _).mono ?_
        rintro e w1 ⟨v, rfl, hown, b1'⟩
        rw [HN.out] at hown
        obtain ⟨r, hr⟩ := first_eq s
        have HR := Lib.hid hr
        rw [hr] at hown
        obtain ⟨g, cap, rfl, hc⟩ := own_first hown (by rw [← hr]; exact HN.out.symm)
        have hgb := (Lib.hid (hown.lt g (by simp [Value.ownBlock])))
        clear hown hr
        go_wp2_with fail
        refine (HD.out _ (parc.tab_below b1' HT.out)).mono ?_
        rintro e w2 ⟨h, b2'⟩
        obtain rfl : e = .returned (.tuple #[.string ⟨(sealed (first s).data.toList).toArray⟩, .bool true]) := by
          rcases h with ⟨_, h⟩ | ⟨h, _⟩
          · exact h
          · rw [HK.out] at h; cases h
        have hc2 : w2.cell? ⟨g, 0, none⟩ = some (.string (first s)) := (b2'.cell (p := ⟨g, 0, none⟩) hgb.out.2).trans hc
        clear h
        go_wp2_with fail
        go_ret2
        exact ⟨.inl ⟨⟨h1', HQ.out⟩, rfl⟩, b1'.trans (b2'.mono b1'.size)⟩
      · have b1 : (sealed (first s).data.toList == s.toList) = false := by
          have h : ¬ sealed (first s).data.toList = s.data.toList := hq
          rw [ByteArray.toList_eq]; simpa using h
        have HQ := Lib.hid hq
        have hn0 : (0 : Int) < (n : Int) := by have := H2.out; omega
        clear hq
        go_enter Tryd.func18, Tryd.ntmps18
        go_wp2_with fail
        refine (HC.out _).mono ?_
        rintro e w1 ⟨v, rfl, hown, b1'⟩
        rw [HN.out] at hown
        obtain ⟨r, hr⟩ := first_eq s
        rw [hr] at hown
        obtain ⟨g, cap, rfl, hc⟩ := own_first hown (by rw [← hr]; exact HN.out.symm)
        clear hown hr
        go_wp2_with fail
        refine (HD.out _ (parc.tab_below b1' HT.out)).mono ?_
        rintro e w2 ⟨h, b2'⟩
        rcases h with ⟨_, rfl⟩ | ⟨_, rfl⟩
        · go_wp2_with fail
          go_ret2
          exact ⟨.inr ⟨fun h => HQ.out h.2, rfl⟩, b1'.trans (b2'.mono b1'.size)⟩
        · go_wp2_with fail
          go_ret2
          exact ⟨.inr ⟨fun h => HQ.out h.2, rfl⟩, b1'.trans (b2'.mono b1'.size)⟩
    · have b2 : ((n : Int) != 2) = true := by simp; omega
      have b22 : (n != 2) = true := by simpa using h2
      have H2 := Lib.hid h2
      clear h2 h1
      go_enter Tryd.func18, Tryd.ntmps18
      go_wp2_with fail
      refine (HC.out _).mono ?_
      rintro e w1 ⟨v, rfl, hown, b1'⟩
      rw [HN.out] at hown
      obtain ⟨r, hr⟩ := first_eq s
      rw [hr] at hown
      obtain ⟨g, cap, rfl, hc⟩ := own_first hown (by rw [← hr]; exact HN.out.symm)
      clear hown hr
      go_wp2_with fail
      go_ret2
      exact ⟨.inr ⟨fun h => H2.out (HN.out.symm.trans (ver_len s h.2)), rfl⟩, b1'⟩
end Go.Proofs.YthpmgapgjfabgaaDoor.verc
