/-
  The seal of a text: AppendChecksum of the program and of the model.
  Conditions: texts of at most 1048576 bytes; the library's table is there, as the row's list says.
-/
import Derived.Test.YthpmgapgjfabgaaDoorSumC
import Derived.Test.YthpmgapgjfabgaaDoorFmt
import Derived.Test.YthpmgapgjfabgaaDoorJoinC
import Derived.Test.YthpmgapgjfabgaaDoorStandC
import Derived.Test.YthpmgapgjfabgaaDoorNumMath
import Derived.Test.YthpmgapgjfabgaaDoorPar
namespace Go.Proofs.YthpmgapgjfabgaaDoor.sealc
open Go.RowKit
open nummath fnExactFormatInt Sums strmath reads standc
set_option linter.unusedVariables false

/-- a text with its checksum -/
def sealed (l : List UInt8) : List UInt8 := l ++ (35 :: Lib.itoa (ck l))
theorem itoa_len (l : List UInt8) : (Lib.itoa (ck l)).length ≤ 6 := by
  have h := ck_bd l
  have := num_len (l := Lib.itoa (ck l)) rfl (by omega) (by omega)
  have e : neg (Lib.itoa (ck l)) = false := by rw [num_neg]; simp; omega
  simp only [body, e, Bool.false_eq_true, if_false] at this
  exact this.2
theorem itoa_no (n : Int) (h : 0 ≤ n) : has (Lib.itoa n) 35 = false := by
  rw [has_no]
  intro hm
  obtain ⟨k, hk⟩ := List.getElem?_of_mem hm
  have e : neg (Lib.itoa n) = false := by rw [num_neg]; simp; omega
  have := num_digit (l := Lib.itoa n) rfl k 35 (by simp only [body, e, Bool.false_eq_true, if_false]; exact hk)
  simp at this
theorem sealed_len (l : List UInt8) : l.length + 1 ≤ (sealed l).length ∧ (sealed l).length ≤ l.length + 7 := by
  have := itoa_len l
  unfold sealed
  rw [List.length_append, List.length_cons]
  omega

/-- a text that can be sealed -/
def okSeal (s : ByteArray) : Bool := decide (s.size ≤ 4000) && !has s.data.toList 35 && decide ((sealed s.data.toList).length ≤ 4000)

/-- what it answers, memory left to the caller -/
def Ans (s : ByteArray) (e : Ending) : Prop :=
  (okSeal s = true ∧ e = .returned (.tuple #[.string ⟨(sealed s.data.toList).toArray⟩, .bool true])) ∨ (okSeal s = false ∧ e = .returned (.tuple #[.string ⟨#[]⟩, .bool false]))

theorem app_seal (s : ByteArray) : s ++ (⟨#[35]⟩ : ByteArray) ++ (⟨(Lib.itoa (ck s.data.toList)).toArray⟩ : ByteArray) = ⟨(sealed s.data.toList).toArray⟩ := by
  apply ByteArray.ext
  simp [ByteArray.data_append, sealed]
theorem size_mk (l : List UInt8) : (⟨l.toArray⟩ : ByteArray).size = l.length := rfl

set_option maxHeartbeats 1000000 in
/-- the model's seal -/
theorem seal_any (s : ByteArray) (w : World) (hs : s.size ≤ 1048576) :
    Calls Tryd.prog 34 #[.string s] w fun e w' => e = .returned (.string ⟨(sealed s.data.toList).toArray⟩) ∧ ∃ m, w' = w.drewN m := by
  have hb := ck_bd s.data.toList
  obtain ⟨h0, h1⟩ := hb
  have HL := Lib.hid (itoa_len s.data.toList)
  have hadd : ∀ W : World, (Op.stringOp .add (s ++ (⟨#[35]⟩ : ByteArray)) (⟨(Lib.itoa (ck s.data.toList)).toArray⟩ : ByteArray)).run Tryd.prog W = .ok (.string ⟨(sealed s.data.toList).toArray⟩) W := fun W => by
    rw [run_string_add_sum W _ _ (by
      rw [ByteArray.size_append', size_mk (Lib.itoa (ck s.data.toList))]
      have := HL.out
      show s.size + 1 + _ ≤ _
      omega), app_seal]
  go_enter Tryd.func34, Tryd.ntmps34
  go_wp2_with fail
  refine (sumc.l1Sum_any s _ (by unfold maxLen; omega)).mono ?_
  rintro e w' ⟨rfl, rfl⟩
  go_wp2_with fail
  refine (nums.num_any _ _ (by omega) (by omega)).mono ?_
  rintro e w' ⟨rfl, m, rfl⟩
  go_wp2_with fail
  go_ret
  exact ⟨rfl, _, rfl⟩

theorem stand_yes (s : ByteArray) (w : World) (hs : s.size ≤ 1048576) (h : has s.data.toList 35 = true) :
    Calls Tryd.prog 33 #[.string s, .int .u8 35] w fun e w' => e = .returned (.bool true) ∧ w = w' :=
  (stands_any s 35 w (by unfold maxLen; omega)).mono fun _ _ hh => ⟨by rw [hh.1, h], hh.2⟩
theorem stand_no (s : ByteArray) (w : World) (hs : s.size ≤ 1048576) (h : has s.data.toList 35 = false) :
    Calls Tryd.prog 33 #[.string s, .int .u8 35] w fun e w' => e = .returned (.bool false) ∧ w = w' :=
  (stands_any s 35 w (by unfold maxLen; omega)).mono fun _ _ hh => ⟨by rw [hh.1, h], hh.2⟩

set_option maxHeartbeats 1000000 in
/-- AppendChecksum of the model -/
theorem model_any (s : ByteArray) (w : World) (hs : s.size ≤ 1048576) :
    Calls Tryd.prog 17 #[.string s] w fun e w' => Ans s e ∧ ∃ m, w' = w.drewN m := by
  by_cases h1 : 4000 < s.size
  · go_enter Tryd.func17, Tryd.ntmps17
    go_wp2_with fail
    go_ret2
    exact ⟨.inr ⟨by simp [okSeal]; omega, rfl⟩, 0, rfl⟩
  · have h1' : s.size ≤ 4000 := by omega
    by_cases h2 : has s.data.toList 35 = true
    · have H2 := Lib.hid h2
      clear h2 h1
      go_enter Tryd.func17, Tryd.ntmps17
      go_wp2_with fail
      refine (stand_yes s _ hs H2.out).mono ?_
      rintro e w' ⟨rfl, rfl⟩
      go_wp2_with fail
      go_ret2
      exact ⟨.inr ⟨by simp [okSeal, H2.out], rfl⟩, 0, rfl⟩
    · have H2 := Lib.hid (show has s.data.toList 35 = false by simpa using h2)
      clear h2 h1
      obtain ⟨y, hy⟩ : ∃ y : ByteArray, Hid ((⟨(sealed s.data.toList).toArray⟩ : ByteArray) = y) := ⟨_, Lib.hid rfl⟩
      have hys : Hid (y.size = (sealed s.data.toList).length) := by show _ = _; rw [← hy.out]; rfl
      have c := fun W => seal_any s W hs
      rw [hy.out] at c
      have C := Lib.hid c
      clear c
      have hym : y.size ≤ 5000 := by have := hys.out; have := sealed_len s.data.toList; have hl : s.data.toList.length = s.size := rfl; omega
      by_cases h3 : 4000 < y.size
      · go_enter Tryd.func17, Tryd.ntmps17
        go_wp2_with fail
        refine (stand_no s _ hs H2.out).mono ?_
        rintro e w' ⟨rfl, rfl⟩
        go_wp2_with fail
        refine (C.out _).mono ?_
        rintro e w' ⟨rfl, m, rfl⟩
        go_wp2_with fail
        go_ret2
        refine ⟨.inr ⟨?_, rfl⟩, _, rfl⟩
        have := hys.out
        simp [okSeal]; omega
      · have h3' : y.size ≤ 4000 := by omega
        clear h3
        go_enter Tryd.func17, Tryd.ntmps17
        go_wp2_with fail
        refine (stand_no s _ hs H2.out).mono ?_
        rintro e w' ⟨rfl, rfl⟩
        go_wp2_with fail
        refine (C.out _).mono ?_
        rintro e w' ⟨rfl, m, rfl⟩
        go_wp2_with fail
        refine (C.out _).mono ?_
        rintro e w' ⟨rfl, m2, rfl⟩
        go_wp2_with fail
        go_ret2
        refine ⟨.inl ⟨?_, ?_⟩, _, rfl⟩
        · have := hys.out
          simp [okSeal, H2.out]; omega
        · rw [hy.out]; rfl

theorem join_seal (s : ByteArray) : joinL 35 [s, ⟨(Lib.itoa (ck s.data.toList)).toArray⟩] = sealed s.data.toList := by
  simp [joinL, sealed]
theorem clean_seal (s : ByteArray) : clean 35 [s, ⟨(Lib.itoa (ck s.data.toList)).toArray⟩] = !has s.data.toList 35 := by
  have h := itoa_no (ck s.data.toList) (ck_bd _).1
  simp [clean, h]

set_option maxHeartbeats 1000000 in
/-- AppendChecksum of the program -/
theorem impl_any (s : ByteArray) (w : World) (hs : s.size ≤ 1048576) (hT : Lib.TabIs Tryd.prog w "internal/strconv.uint64pow10" .u64 Lib.pow10Tab) :
    Calls Tryd.prog 16 #[.string s] w fun e w' => Ans s e ∧ Below w.heap.size w w' := by
  have HT := Lib.hid hT
  clear hT
  by_cases h1 : 4000 < s.size
  · go_enter Tryd.func16, Tryd.ntmps16
    go_wp2_with fail
    refine (sumc.sum_long s _ h1 (by unfold maxLen; omega)).mono ?_
    rintro e w' ⟨rfl, rfl⟩
    go_wp2_with fail
    go_ret2
    exact ⟨.inr ⟨by simp [okSeal]; omega, rfl⟩, Below.refl _ _⟩
  · have h1' : s.size ≤ 4000 := by omega
    have hb := ck_bd s.data.toList
    obtain ⟨h0, h2⟩ := hb
    obtain ⟨d, HD⟩ : ∃ d : ByteArray, Hid ((⟨(Lib.itoa (ck s.data.toList)).toArray⟩ : ByteArray) = d) := ⟨_, Lib.hid rfl⟩
    have hdl : d.size ≤ 6 := by rw [← HD.out]; exact itoa_len _
    have c := fun W hW => fmt_in (ck s.data.toList) W (by omega) (by omega) hW
    rw [HD.out] at c
    have C := Lib.hid c
    clear c h1
    go_enter Tryd.func16, Tryd.ntmps16
    go_wp2_with fail
    refine (sumc.sum_any s _ h1').mono ?_
    rintro e w' ⟨rfl, rfl⟩
    go_wp2_with fail
    refine (C.out _ HT.out).mono ?_
    rintro e w1 ⟨rfl, b1⟩
    go_wp2_with fail
    have R := (Blk.new w1 9 (strs [s, d]).toArray).reads
    refine (joinc.join_any _ 2 _ 35 [s, d] _ R (by decide) (by decide) (by intro p hp; simp at hp; rcases hp with rfl | rfl <;> omega)).mono ?_
    clear R
    rintro e w2 ⟨hJ, b2⟩
    rw [← HD.out, join_seal, clean_seal] at hJ
    have HB := Lib.hid (show Below w.heap.size w w2 from (b1.alloc b1.size _).trans (b2.mono (by have := b1.size; simp; omega)))
    clear b1 b2
    rcases hJ with ⟨j1, j2, rfl⟩ | ⟨j1, rfl⟩
    · have J := Lib.hid (show okSeal s = true by simp at j1; simp [okSeal, j1]; exact ⟨h1', j2⟩)
      clear j1 j2
      go_wp2_with fail
      go_ret2
      exact ⟨.inl ⟨J.out, rfl⟩, HB.out⟩
    · have J := Lib.hid (show okSeal s = false by
        rcases j1 with j1 | j1
        · simp at j1; simp [okSeal, j1]
        · simp [okSeal]; omega)
      clear j1
      go_wp2_with fail
      go_ret2
      exact ⟨.inr ⟨J.out, rfl⟩, HB.out⟩
end Go.Proofs.YthpmgapgjfabgaaDoor.sealc
