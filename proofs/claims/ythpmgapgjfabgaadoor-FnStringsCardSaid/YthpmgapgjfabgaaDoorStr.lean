/-
  FnStrings holds: at every code FormatInt and ParseInt are inverse, AppendChecksum and VerifyChecksum are inverse, each answers as its model answers, and a changed byte of a checksummed text is detected; the code reads behind the call as it read before it; the table and the two errors of the library are tied to the program's text by the given tie.
  Conditions: none of our own.
-/
import Derived.Test.YthpmgapgjfabgaaDoorParse
import Derived.Test.YthpmgapgjfabgaaDoorVer
import Derived.Test.YthpmgapgjfabgaaDoorDrawD
import Derived.Test.YthpmgapgjfabgaaDoorOpenB
import Derived.Test.YthpmgapgjfabgaaDoorDetect
import Derived.Lib.ConvBytes
import Derived.StillTailTactics
import Derived.ChangeOld
import Derived.Below
import Derived.Test.YthpmgapgjfabgaaDoorCards
import Derived.Test.YthpmgapgjfabgaaDoorTie
import Derived.Test.YthpmgapgjfabgaaDoorEnd
import Derived.WalkKit
import Derived.ProofKit
import Derived.OpenShut
import Derived.ShutString
import Derived.Deep.DeepHandedRow
import Derived.Deep.DeepWitnessRowRef
import Derived.Lib.LaidTab
import Derived.LaidMore
namespace Go.Proofs.YthpmgapgjfabgaaDoor.fnStrings
open Go.ChangeShapes Go.WideShapes Go.ChangeAt Go.RowKit
open Go.ChangeMaps (open_string shut_string)
open strmath nummath readc parc sealc verc drawd
open fnExactFormatInt (gTab gTabType cellsTab cellsOne)
open fnExactParseInt (rowErr gES gESType gER gERType cellsES cellsS num_one)
set_option linter.unusedVariables false

theorem own : ownKnob Tryd.prog.godebug = none := by kernel_rfl
theorem laidOut : laidOutB Tryd.prog = true := by kernel_rfl
def LPost (w : World) (e : Ending) (w' : World) : Prop := e = .returned (.bool true) ∧ Below w.heap.size w w'

/-- what the row's list gives -/
theorem given {W : World} (h : laidMetH Tryd.prog Rows.fnStringsRow.laid W) : Vars W := by
  refine ⟨?_, ?_, ?_⟩
  · have h1 := h.filter fun x => x.1 == "internal/strconv.uint64pow10"
    have e : (Rows.fnStringsRow.laid.filter fun x => x.1 == "internal/strconv.uint64pow10") = [("internal/strconv.uint64pow10", Lib.tabData .u64 Lib.pow10Tab)] := by kernel_rfl
    rw [e] at h1
    exact Lib.tabIs_of_head (rest := []) gTab gTabType Tryd.underlying89 Tryd.underlying35 cellsOne cellsTab h1
  · have h1 := h.filter fun x => x.1 == "strconv.ErrSyntax"
    have e : (Rows.fnStringsRow.laid.filter fun x => x.1 == "strconv.ErrSyntax") = [("strconv.ErrSyntax", Rows.laid_strconv_ErrSyntax)] := by kernel_rfl
    rw [e] at h1
    obtain ⟨a0, s0, hv0, -, -, -⟩ := laid_sentinel (r := []) h1 gES gESType Tryd.underlying46 rowErr Tryd.underlying94 Tryd.underlying96 rfl rfl Tryd.underlying9 cellsES cellsS
    exact ⟨_, _, hv0⟩
  · have h1 := h.filter fun x => x.1 == "strconv.ErrRange"
    have e : (Rows.fnStringsRow.laid.filter fun x => x.1 == "strconv.ErrRange") = [("strconv.ErrRange", Rows.laid_strconv_ErrRange)] := by kernel_rfl
    rw [e] at h1
    obtain ⟨a0, s0, hv0, -, -, -⟩ := laid_sentinel (r := []) h1 gER gERType Tryd.underlying46 rowErr Tryd.underlying94 Tryd.underlying96 rfl rfl Tryd.underlying9 cellsES cellsS
    exact ⟨_, _, hv0⟩

theorem vars_below {w w' : World} (hb : Below w.heap.size w w') (h : Vars w) : Vars w' := by
  obtain ⟨h1, ⟨t2, p2, h2⟩, ⟨t3, p3, h3⟩⟩ := h
  exact ⟨tab_below hb h1, ⟨t2, p2, var?_below hb gES (var_lt gES h2) h2⟩, ⟨t3, p3, var?_below hb gER (var_lt gER h3) h3⟩⟩

/-- where the law stands: the code reads, the variables are as they were -/
def St (w : World) (A : Option Addr) (n : Nat) (zs : List UInt8) (v : World) : Prop := Below w.heap.size w v ∧ drawd.Code v A n zs ∧ Vars v
theorem St.step {w v v' : World} {A : Option Addr} {n : Nat} {zs : List UInt8} (h : St w A n zs v) (hb : Below v.heap.size v v') : St w A n zs v' :=
  ⟨h.1.trans (hb.mono h.1.size), h.2.1.below hb, vars_below hb h.2.2⟩
theorem St.draw {w v : World} {A : Option Addr} {n : Nat} {zs : List UInt8} (h : St w A n zs v) (m : Nat) : St w A n zs (v.drewN m) :=
  h.step ⟨rfl, rfl, rfl, Nat.le_refl _, fun _ _ => rfl⟩

theorem big_yes (A : Option Addr) (n cap : Nat) (w : World) (h : 65536 < n) (hm : n ≤ maxLen) :
    Calls Tryd.prog 8 #[.slice A n cap] w fun e w' => e = .returned (.bool true) ∧ w = w' := by
  unfold maxLen at hm
  have hd : decide (65536 < n) = true := by simpa using h
  have hd2 : decide (65536 < (n : Int)) = true := by simp; omega
  go_enter Tryd.func8, Tryd.ntmps8
  go_wp2_with fail
  go_ret
  exact ⟨rfl, rfl⟩
theorem big_no (A : Option Addr) (n cap : Nat) (w : World) (h : n ≤ 65536) :
    Calls Tryd.prog 8 #[.slice A n cap] w fun e w' => e = .returned (.bool false) ∧ w = w' := by
  have hd : decide (65536 < n) = false := by simpa using h
  have hd2 : decide (65536 < (n : Int)) = false := by simp; omega
  go_enter Tryd.func8, Tryd.ntmps8
  go_wp2_with fail
  go_ret
  exact ⟨rfl, rfl⟩

/-- what FormatInt answers, and its model -/
structure FAns (x : Int) (s : ByteArray) (b : Bool) : Prop where
  impl : ∀ W, Vars W → Calls Tryd.prog 10 #[.int .i64 x] W fun e w' => e = .returned (.tuple #[.string s, .bool b]) ∧ Below W.heap.size W w'
  model : ∀ W, Calls Tryd.prog 11 #[.int .i64 x] W fun e w' => e = .returned (.tuple #[.string s, .bool b]) ∧ ∃ m, w' = W.drewN m
  num : b = true → IsNum s x
  small : s.size ≤ 1048576
theorem fmt_both (x : Int) : ∃ s b, FAns x s b := by
  by_cases h : x < -999999 ∨ 999999 < x
  · exact ⟨⟨#[]⟩, false, fun W _ => (fnExactFormatInt.fmt_out x W h).mono fun e w' hh => ⟨hh.1, by rw [← hh.2]; exact Below.refl _ _⟩, fun W => (fnExactFormatInt.model_out x W h).mono fun e w' hh => ⟨hh.1, 0, hh.2.symm⟩, fun h => (by cases h), (by decide)⟩
  · refine ⟨⟨(Lib.itoa x).toArray⟩, true, fun W hV => fnExactFormatInt.fmt_in x W (by omega) (by omega) hV.1, fun W => fnExactFormatInt.model_in x W (by omega) (by omega), fun _ => ⟨by omega, by omega, rfl⟩, ?_⟩
    show (Lib.itoa x).length ≤ 1048576
    have d1 := nums.dec_le x.natAbs
    have d2 := nums.dec_le x.toNat
    unfold Lib.itoa
    split
    · simp; omega
    · simp; omega

/-- what ParseInt answers, and its model -/
theorem par_both (t : ByteArray) : ∃ (m : Int) (b : Bool), (∀ e : Ending, ((∃ n, IsNum t n ∧ e = .returned (.tuple #[.int .i64 n, .bool true])) ∨ ((∀ n, ¬ IsNum t n) ∧ e = .returned (.tuple #[.int .i64 0, .bool false]))) → e = .returned (.tuple #[.int .i64 m, .bool b])) ∧ ∀ n, IsNum t n → m = n ∧ b = true := by
  by_cases hex : ∃ n, IsNum t n
  · obtain ⟨n, hn⟩ := hex
    refine ⟨n, true, fun e he => ?_, fun k hk => ⟨num_one hn hk, rfl⟩⟩
    rcases he with ⟨k, hk, rfl⟩ | ⟨hk, _⟩
    · rw [num_one hn hk]
    · exact absurd hn (hk n)
  · refine ⟨0, false, fun e he => ?_, fun k hk => absurd ⟨k, hk⟩ hex⟩
    rcases he with ⟨k, hk, rfl⟩ | ⟨_, he⟩
    · exact absurd ⟨k, hk⟩ hex
    · exact he

/-- a text as bytes -/
theorem bytes_of (y : ByteArray) (w : World) : ∃ (cp : Nat) (w7 : World), (convert 9 22 (.string y)).run Tryd.prog w = .ok (.slice (some ⟨w.heap.size, 0, none⟩) y.size cp) w7 ∧
    (∀ j (hj : j < y.data.toList.length), w7.cell? ⟨w.heap.size, j, none⟩ = some (.int .u8 (y.data.toList[j].toNat : Int))) ∧ (∀ j, j < y.size → w7.frozen? ⟨w.heap.size, j, none⟩ = false) ∧ Below w.heap.size w w7 ∧ w7.heap.size = w.heap.size + 1 := by
  refine ⟨_, _, Lib.run_convert_string_bytes (P := Tryd.prog) w 9 22 5 y Tryd.underlying9 Tryd.underlying22 Tryd.underlying5, fun j hj => ?_, fun j hj => ?_, ⟨rfl, rfl, rfl, ?_, fun j hj => Lib.bytesWorld_at_old w _ y j hj⟩, Lib.bytesWorld_size w _ y⟩
  · rw [Lib.bytesWorld_cell w _ y j hj, List.getD_eq_getElem?_getD, List.getElem?_eq_getElem hj]; rfl
  · have h := Lib.bytesWorld_at_new w 5 y
    have hs : j < (Lib.bytesCells w 5 y).size := by
      unfold Lib.bytesCells
      simp
      omega
    simp [World.frozen?, h]
    omega
  · rw [Lib.bytesWorld_size]; omega

/-- a byte of the code, or one in its place: always the same -/
theorem at_val (A : Option Addr) (n cap i : Nat) (zs : List UInt8) (hi : i ≤ 100) :
    ∃ r : Nat, r ≤ 255 ∧ ∀ W, drawd.Code W A n zs → Calls Tryd.prog 19 #[.slice A n cap, .int .i64 i] W fun e w' => e = .returned (.int .i64 r) ∧ w' = W := by
  by_cases hlt : i < n
  · refine ⟨(zs.getD i 0).toNat, by have := (zs.getD i 0).toNat_lt; omega, fun W h => ?_⟩
    have hn := h.2
    obtain ⟨ad, u, rfl, hbk, hx, hc⟩ := h.1.at_ hlt
    obtain ⟨z, hz, rfl⟩ : ∃ z : UInt8, zs[i]? = some z ∧ u = .int .u8 z.toNat := by
      simp only [curc.bytesV, List.getElem?_map, Option.map_eq_some_iff] at hx
      obtain ⟨z, h1, h2⟩ := hx
      exact ⟨z, h1, h2.symm⟩
    have hzz : zs.getD i 0 = z := by rw [List.getD_eq_getElem?_getD, hz]; rfl
    have HZ := Lib.hid hzz
    clear hx hz h hzz
    have hzl : z.toNat < 256 := z.toNat_lt
    go_enter Tryd.func19, Tryd.ntmps19
    go_wp2_with fail
    go_ret
    exact ⟨by rw [HZ.out]; rfl, rfl⟩
  · refine ⟨(i * 7 + n) % 256, by omega, fun W h => ?_⟩
    have hn := h.2
    have hm : ((i : Int) * 7 + (n : Int)) % 256 = (((i * 7 + n) % 256 : Nat) : Int) := by omega
    clear h
    go_enter Tryd.func19, Tryd.ntmps19
    go_wp2_with fail
    go_ret
    exact ⟨by first | rfl | (rw [← hm]; rfl), rfl⟩

/-- a byte that is turned -/
theorem flip (z : UInt8) (r : Nat) : ∃ nb : UInt8, nb ≠ z ∧ bits .xor .u8 (z.toNat : Int) (1 + (r : Int) % 255) = (nb.toNat : Int) := by
  have hq : (1 : Int) + (r : Int) % 255 = ((1 + r % 255 : Nat) : Int) := by omega
  have hl : 1 + r % 255 < 256 := by omega
  have ht : (UInt8.ofNat (1 + r % 255)).toNat = 1 + r % 255 := UInt8.toNat_ofNat_of_lt' hl
  refine ⟨z ^^^ UInt8.ofNat (1 + r % 255), fun h => ?_, ?_⟩
  · have h1 := congrArg (fun u => z ^^^ u) h
    simp only [← UInt8.xor_assoc, UInt8.xor_self, UInt8.zero_xor] at h1
    rw [h1] at ht
    have : (0 : UInt8).toNat = 0 := rfl
    omega
  · rw [hq, u8_xor_nat _ _ z.toNat_lt hl, UInt8.toNat_xor, ht]

/-- the bytes with one turned, as a text -/
theorem back_of (y : ByteArray) (w12 : World) (g k cp : Nat) (nb : UInt8) (V : Int) (hV : V = (nb.toNat : Int))
    (hcell : ∀ j (hj : j < y.data.toList.length), w12.cell? ⟨g, j, none⟩ = some (.int .u8 (y.data.toList[j].toNat : Int))) (hk : k < y.data.toList.length) :
    (convert 22 9 (.slice (some ⟨g, 0, none⟩) y.size cp)).run Tryd.prog (w12.setCell ⟨g, k, none⟩ (.int .u8 V)).drew = .ok (.string ⟨(y.data.toList.set k nb).toArray⟩) (w12.setCell ⟨g, k, none⟩ (.int .u8 V)).drew := by
  subst hV
  have h := run_convert_bytes_back (P := Tryd.prog) (w12.setCell ⟨g, k, none⟩ (.int .u8 (nb.toNat : Int))).drew 22 9 5 ⟨g, 0, none⟩ cp (y.data.toList.set k nb) Tryd.underlying22 Tryd.underlying5 Tryd.underlying9 (fun j hj => by
    have hj' : j < y.data.toList.length := by simpa using hj
    have e : (⟨g, 0, none⟩ : Addr).add j = ⟨g, j, none⟩ := by
      unfold Addr.add
      by_cases h0 : j = 0 <;> simp [h0]
    rw [e]
    show (w12.setCell ⟨g, k, none⟩ (.int .u8 (nb.toNat : Int))).cell? ⟨g, j, none⟩ = _
    by_cases hjk : k = j
    · subst hjk
      rw [World.cell?_setCell_same _ _ _ (hcell k hj')]
      rw [List.getElem_set_self]
    · rw [World.cell?_setCell_other _ _ _ _ (by intro h; injection h with _ h _; exact hjk h), hcell j hj', List.getElem_set_ne hjk])
  rw [List.length_set] at h
  exact h

set_option maxHeartbeats 4000000 in
set_option maxRecDepth 100000 in
theorem walk (A : Option Addr) (n cap : Nat) (zs : List UInt8) (w : World) (hR : reads.Reads w w.heap.size 1 A n (curc.bytesV zs)) (hm : n ≤ maxLen) (hV : Vars w) :
    Calls Tryd.prog 3 #[.slice A n cap] w (LPost w) := by
  by_cases hb : 65536 < n
  · have HB := Lib.hid (big_yes A n cap w hb hm)
    clear hb hm hR hV
    go_enter Tryd.func3, Tryd.ntmps3
    go_wp2_with fail
    refine HB.out.mono ?_
    rintro e w' ⟨rfl, rfl⟩
    go_wp2_with fail
    go_ret
    exact ⟨rfl, Below.refl _ _⟩
  · have HB := Lib.hid (big_no A n cap w (by omega))
    have HV := Lib.hid hV
    have S0 := Lib.hid (show St w A n zs w from ⟨Below.refl _ _, ⟨hR, by omega⟩, hV⟩)
    clear hb hm hR hV
    go_enter Tryd.func3, Tryd.ntmps3
    go_wp2_with fail
    refine HB.out.mono ?_
    rintro e w' ⟨rfl, rfl⟩
    clear HB
    go_wp2_with fail
    refine (fmt_draw A n cap zs _ S0.out.2.1).mono ?_
    rintro e w1 ⟨x, rfl, hx1, hx2, b1⟩
    obtain ⟨s, okf, hF⟩ := fmt_both x
    have HF := Lib.hid hF
    have S1 := Lib.hid (S0.out.step b1)
    clear b1 S0 hF
    go_wp2_with fail
    refine (HF.out.impl _ S1.out.2.2).mono ?_
    rintro e w2 ⟨rfl, b2⟩
    have S2 := Lib.hid (S1.out.step b2)
    clear b2 S1
    go_wp2_with fail
    refine (HF.out.model _).mono ?_
    rintro e w3 ⟨rfl, m3, rfl⟩
    have S3 := Lib.hid (S2.out.draw m3)
    clear S2
    go_wp2_with fail
    refine (par_draw A n cap zs _ S3.out.2.1).mono ?_
    rintro e w4 ⟨t, rfl, ht, b4⟩
    obtain ⟨m, okp, hP, -⟩ := par_both t
    have HP := Lib.hid hP
    have S4 := Lib.hid (S3.out.step b4)
    clear b4 S3 hP
    go_wp2_with fail
    refine (par_any t _ (by omega) S4.out.2.2).mono ?_
    rintro e w5 ⟨h, b5⟩
    obtain rfl := HP.out e h
    have S5 := Lib.hid (S4.out.step b5)
    clear b5 S4 h
    go_wp2_with fail
    refine (parc.model_any t _ (by omega)).mono ?_
    rintro e w6 ⟨h, m6, rfl⟩
    obtain rfl := HP.out e h
    have S6 := Lib.hid (S5.out.draw m6)
    clear S5 h HP ht
    go_wp2_with fail
    refine (app_draw A n cap zs _ S6.out.2.1).mono ?_
    rintro e w7 ⟨x7, rfl, hx7, b7⟩
    obtain ⟨y, sb, HY, HY2⟩ : ∃ (y : ByteArray) (sb : Bool), Hid (∀ e, Ans x7 e → e = .returned (.tuple #[.string y, .bool sb])) ∧ Hid ((sb = true ∧ okSeal x7 = true ∧ y = ⟨(sealed x7.data.toList).toArray⟩) ∨ (sb = false ∧ y = ⟨#[]⟩)) := by
      cases h : okSeal x7
      · refine ⟨⟨#[]⟩, false, Lib.hid fun e he => ?_, Lib.hid (.inr ⟨rfl, rfl⟩)⟩
        rcases he with ⟨he, _⟩ | ⟨_, he⟩
        · rw [h] at he; cases he
        · exact he
      · refine ⟨_, true, Lib.hid fun e he => ?_, Lib.hid (.inl ⟨rfl, rfl, rfl⟩)⟩
        rcases he with ⟨_, he⟩ | ⟨he, _⟩
        · exact he
        · rw [h] at he; cases he
    have S7 := Lib.hid (S6.out.step b7)
    clear b7 S6
    go_wp2_with fail
    refine (sealc.impl_any x7 _ (by omega) S7.out.2.2.1).mono ?_
    rintro e w8 ⟨h, b8⟩
    obtain rfl := HY.out e h
    have S8 := Lib.hid (S7.out.step b8)
    clear b8 S7 h
    go_wp2_with fail
    refine (sealc.model_any x7 _ (by omega)).mono ?_
    rintro e w9 ⟨h, m9, rfl⟩
    obtain rfl := HY.out e h
    have S9 := Lib.hid (S8.out.draw m9)
    clear S8 h HY
    go_wp2_with fail
    refine (par_any s _ (by have := HF.out.small; omega) S9.out.2.2).mono ?_
    rintro e w10 ⟨h, b10⟩
    obtain ⟨m10, okb, hP, hN⟩ := par_both s
    obtain rfl := hP e h
    have S10 := Lib.hid (S9.out.step b10)
    clear b10 S9 h hP
    cases okf
    · rcases HY2.out with ⟨rfl, hok, hy⟩ | ⟨rfl, rfl⟩
      · clear hN HF HY2
        have HS := Lib.hid (show has x7.data.toList 35 = false by simp [okSeal] at hok; simpa using hok.1.2)
        obtain ⟨hl1, hl2⟩ := sealed_len x7.data.toList
        have l7 : x7.data.toList.length = x7.size := rfl
        have HYL := Lib.hid (show y.data.toList = sealed x7.data.toList by rw [hy])
        have ysz : y.size = (sealed x7.data.toList).length := by rw [hy]; rfl
        have hy0 : 0 < y.size := by omega
        have hy1 : y.size ≤ 4000 := by
          simp [okSeal] at hok
          omega
        have HYS := Lib.hid ysz
        clear hy hok hl1 hl2 ysz
        have HOK := Lib.hid (detect.verified x7 y HS.out HYL.out)
        go_wp2_with fail
        refine (verc.impl_any y _ (by omega) S10.out.2.2.1).mono ?_
        rintro e w11 ⟨h, b11⟩
        obtain rfl : e = .returned (.tuple #[.string x7, .bool true]) := by
          rcases h with ⟨_, h⟩ | ⟨h, _⟩
          · rw [h, HOK.out.1]
          · exact absurd ⟨hy1, HOK.out.2⟩ h
        have S11 := Lib.hid (S10.out.step b11)
        clear b11 S10 h HOK
        obtain ⟨cp, w12, hcv, hcell, hfro, b12, hsz⟩ := bytes_of y w11
        obtain ⟨g, hg⟩ : ∃ g, w11.heap.size = g := ⟨_, rfl⟩
        have S12 := Lib.hid (S11.out.step b12)
        have hgw : w.heap.size ≤ g := by have := S11.out.1.size; omega
        rw [hg] at hcv hcell hfro
        have HC := Lib.hid hcell
        have HF2 := Lib.hid hfro
        clear b12 S11 hcell hfro
        go_wp2_with fail
        refine (at_any A n cap 9 zs _ S12.out.2.1 (by decide)).mono ?_
        rintro e w' ⟨r9, rfl, hr9, rfl⟩
        obtain ⟨k, HK⟩ : ∃ k, Hid (r9 % y.size = k) := ⟨_, Lib.hid rfl⟩
        have hk : k < y.size := by rw [← HK.out]; exact Nat.mod_lt _ hy0
        have hke : (r9 : Int) % (y.size : Int) = (k : Int) := by rw [← HK.out]; omega
        clear HK
        have hkl : k < y.data.toList.length := hk
        obtain ⟨z, HZ⟩ : ∃ z, Hid (y.data.toList[k] = z) := ⟨_, Lib.hid rfl⟩
        have hc : w12.cell? ⟨g, k, none⟩ = some (.int .u8 (z.toNat : Int)) := by rw [HC.out k hkl, HZ.out]
        have hf := HF2.out k hk
        have hki : (k : Int) < (y.size : Int) := by omega
        have hzl : z.toNat < 256 := z.toNat_lt
        clear hcv
        obtain ⟨r10, hr10, h10⟩ := at_val A n cap 10 zs (by decide)
        have H10 := Lib.hid h10
        clear h10
        obtain ⟨nb, hnb, hbits⟩ := flip z r10
        have hback := back_of y w12 g k cp nb _ hbits HC.out hkl
        obtain ⟨c, hcc⟩ : ∃ c : ByteArray, (⟨(y.data.toList.set k nb).toArray⟩ : ByteArray) = c := ⟨_, rfl⟩
        have HCC := Lib.hid (show c.data.toList = (sealed x7.data.toList).set k nb by rw [← hcc, HYL.out])
        have hcz : c.size = y.size := by rw [← hcc]; show (y.data.toList.set k nb).length = _; rw [List.length_set]; rfl
        have HBAD := Lib.hid (show ¬ okVer c from detect.detected x7 HS.out k nb (by rw [← HYL.out]; exact hkl) (by rw [← HZ.out] at hnb; intro h; apply hnb; rw [h]; congr 1; exact HYL.out.symm) c HCC.out)
        have B13 := Lib.hid (show Below w.heap.size w (w12.setCell ⟨g, k, none⟩ (.int .u8 (bits .xor .u8 (z.toNat : Int) (1 + (r10 : Int) % 255)))).drew from
          (fun h => ⟨h.os, h.tape, h.output, h.size, h.block⟩ : ∀ {v : World}, Below w.heap.size w v → Below w.heap.size w v.drew) (S12.out.1.setCell hgw _))
        rw [hcc] at hback
        clear hnb hbits hcc
        go_wp2_with fail
        refine wp_region_still_tail 13 (by kernel_rfl) (by kernel_rfl) ?_
        simp only [List.take_succ_cons, List.take_zero, List.drop_succ_cons, List.drop_zero]
        repeat still_step
        still_call (H10.out _ (show drawd.Code _ A n zs from S12.out.2.1))
        repeat still_step
        refine wpStill_nil ?_
        change wpList _ _ _ _ _ w12.drew
        go_wp2_with fail
        refine (verc.impl_any c _ (by omega) (tab_below B13.out HV.out.1)).mono ?_
        rintro e w14 ⟨h, b14⟩
        obtain rfl : e = .returned (.tuple #[.string ⟨#[]⟩, .bool false]) := by
          rcases h with ⟨h, _⟩ | ⟨_, h⟩
          · exact absurd h.2 HBAD.out
          · exact h
        have B14 := Lib.hid (B13.out.trans (b14.mono B13.out.size))
        clear b14 h
        go_wp2_with fail
        go_ret
        exact ⟨rfl, B14.out⟩
      · clear hN HF HY2
        go_wp2_with fail
        go_ret
        exact ⟨rfl, S10.out.1⟩
    · obtain ⟨rfl, rfl⟩ := hN x (HF.out.num rfl)
      rcases HY2.out with ⟨rfl, hok, hy⟩ | ⟨rfl, rfl⟩
      · clear hN HF HY2
        have HS := Lib.hid (show has x7.data.toList 35 = false by simp [okSeal] at hok; simpa using hok.1.2)
        obtain ⟨hl1, hl2⟩ := sealed_len x7.data.toList
        have l7 : x7.data.toList.length = x7.size := rfl
        have HYL := Lib.hid (show y.data.toList = sealed x7.data.toList by rw [hy])
        have ysz : y.size = (sealed x7.data.toList).length := by rw [hy]; rfl
        have hy0 : 0 < y.size := by omega
        have hy1 : y.size ≤ 4000 := by
          simp [okSeal] at hok
          omega
        have HYS := Lib.hid ysz
        clear hy hok hl1 hl2 ysz
        have HOK := Lib.hid (detect.verified x7 y HS.out HYL.out)
        go_wp2_with fail
        refine (verc.impl_any y _ (by omega) S10.out.2.2.1).mono ?_
        rintro e w11 ⟨h, b11⟩
        obtain rfl : e = .returned (.tuple #[.string x7, .bool true]) := by
          rcases h with ⟨_, h⟩ | ⟨h, _⟩
          · rw [h, HOK.out.1]
          · exact absurd ⟨hy1, HOK.out.2⟩ h
        have S11 := Lib.hid (S10.out.step b11)
        clear b11 S10 h HOK
        obtain ⟨cp, w12, hcv, hcell, hfro, b12, hsz⟩ := bytes_of y w11
        obtain ⟨g, hg⟩ : ∃ g, w11.heap.size = g := ⟨_, rfl⟩
        have S12 := Lib.hid (S11.out.step b12)
        have hgw : w.heap.size ≤ g := by have := S11.out.1.size; omega
        rw [hg] at hcv hcell hfro
        have HC := Lib.hid hcell
        have HF2 := Lib.hid hfro
        clear b12 S11 hcell hfro
        go_wp2_with fail
        refine (at_any A n cap 9 zs _ S12.out.2.1 (by decide)).mono ?_
        rintro e w' ⟨r9, rfl, hr9, rfl⟩
        obtain ⟨k, HK⟩ : ∃ k, Hid (r9 % y.size = k) := ⟨_, Lib.hid rfl⟩
        have hk : k < y.size := by rw [← HK.out]; exact Nat.mod_lt _ hy0
        have hke : (r9 : Int) % (y.size : Int) = (k : Int) := by rw [← HK.out]; omega
        clear HK
        have hkl : k < y.data.toList.length := hk
        obtain ⟨z, HZ⟩ : ∃ z, Hid (y.data.toList[k] = z) := ⟨_, Lib.hid rfl⟩
        have hc : w12.cell? ⟨g, k, none⟩ = some (.int .u8 (z.toNat : Int)) := by rw [HC.out k hkl, HZ.out]
        have hf := HF2.out k hk
        have hki : (k : Int) < (y.size : Int) := by omega
        have hzl : z.toNat < 256 := z.toNat_lt
        clear hcv
        obtain ⟨r10, hr10, h10⟩ := at_val A n cap 10 zs (by decide)
        have H10 := Lib.hid h10
        clear h10
        obtain ⟨nb, hnb, hbits⟩ := flip z r10
        have hback := back_of y w12 g k cp nb _ hbits HC.out hkl
        obtain ⟨c, hcc⟩ : ∃ c : ByteArray, (⟨(y.data.toList.set k nb).toArray⟩ : ByteArray) = c := ⟨_, rfl⟩
        have HCC := Lib.hid (show c.data.toList = (sealed x7.data.toList).set k nb by rw [← hcc, HYL.out])
        have hcz : c.size = y.size := by rw [← hcc]; show (y.data.toList.set k nb).length = _; rw [List.length_set]; rfl
        have HBAD := Lib.hid (show ¬ okVer c from detect.detected x7 HS.out k nb (by rw [← HYL.out]; exact hkl) (by rw [← HZ.out] at hnb; intro h; apply hnb; rw [h]; congr 1; exact HYL.out.symm) c HCC.out)
        have B13 := Lib.hid (show Below w.heap.size w (w12.setCell ⟨g, k, none⟩ (.int .u8 (bits .xor .u8 (z.toNat : Int) (1 + (r10 : Int) % 255)))).drew from
          (fun h => ⟨h.os, h.tape, h.output, h.size, h.block⟩ : ∀ {v : World}, Below w.heap.size w v → Below w.heap.size w v.drew) (S12.out.1.setCell hgw _))
        rw [hcc] at hback
        clear hnb hbits hcc
        go_wp2_with fail
        refine wp_region_still_tail 13 (by kernel_rfl) (by kernel_rfl) ?_
        simp only [List.take_succ_cons, List.take_zero, List.drop_succ_cons, List.drop_zero]
        repeat still_step
        still_call (H10.out _ (show drawd.Code _ A n zs from S12.out.2.1))
        repeat still_step
        refine wpStill_nil ?_
        change wpList _ _ _ _ _ w12.drew
        go_wp2_with fail
        refine (verc.impl_any c _ (by omega) (tab_below B13.out HV.out.1)).mono ?_
        rintro e w14 ⟨h, b14⟩
        obtain rfl : e = .returned (.tuple #[.string ⟨#[]⟩, .bool false]) := by
          rcases h with ⟨h, _⟩ | ⟨_, h⟩
          · exact absurd h.2 HBAD.out
          · exact h
        have B14 := Lib.hid (B13.out.trans (b14.mono B13.out.size))
        clear b14 h
        go_wp2_with fail
        go_ret
        exact ⟨rfl, B14.out⟩
      · clear hN HF HY2
        go_wp2_with fail
        go_ret
        exact ⟨rfl, S10.out.1⟩

theorem contract (H : Type) (enc : TypeId × Value → H) (W : World) (base : Nat) (args : Array Value) (ds gs : List (DataW H)) (before : List MemPlace)
    (hval : ∀ (j : Nat) t v, Tryd.f3.params[j]? = some t → args[j]? = some v → Value.okWide Tryd.prog W .any base t v)
    (hW : DataW.Whole enc Tryd.prog Tryd.f3.params.toList Rows.fnStringsSpec.vars false W args.toList ds gs before) (hL : laidMetH Tryd.prog Rows.fnStringsRow.laid W) :
    Calls Tryd.prog 3 args W fun e W' => ∃ v, e = .returned v ∧ Rows.fnStringsSpec.post enc Tryd.prog Tryd.f3 false true false false W args v W' := by
  have hW' := hW
  obtain ⟨p, q, hA0, hV, rfl, hfz, hnd⟩ := hW
  have hA : DataW.TrodAll enc Tryd.prog W 0 (fun _ => true) true Tryd.f3.params.toList args.toList ds p := hA0
  rw [Tryd.params3] at hA hval
  obtain ⟨v0, vs0, d0, ds0, p0, q0, hargs, rfl, rfl, h0, r0⟩ := trodAll_cons hA
  obtain ⟨rfl, rfl, rfl⟩ := trodAll_nil r0
  obtain rfl : args = #[v0] := by cases args; simp_all
  obtain ⟨rfl, rfl⟩ := trodVars_none hV
  have k0 := h0
  have lt0 : ∀ x ∈ p0, x.block < W.heap.size := by obtain ⟨m, hm⟩ := k0; exact DataW.trod_lt m _ _ _ hm
  obtain ⟨A, n, cap, zs, rfl, hR, hm⟩ := openb.opened (hval 0 22 v0 rfl rfl) h0
  clear hA0
  refine (walk A n cap zs W hR hm (given hL)).mono fun e W' ⟨he, bel⟩ => ?_
  subst he
  exact ⟨_, rfl, _, _, _, [], _, [], hW', trodAll_mk1 (shut_bool Tryd.underlying4 _), (trodAll_cons_mk (Below.trod laidOut (by kernel_rfl) (of_decide_eq_true (by kernel_rfl)) k0 bel lt0) trodAll_mk0), rfl, bel.frame _, fun h => by cases h⟩

theorem laid_met (os : Os) : laidMet Tryd.prog Rows.fnStringsRow.laid ((World.doorLaid Tryd.prog 2000 os).forCall (fun _ _ => 0) ⟨#[], #[.slice none 0 0], []⟩).memory :=
  laidMet_of_run' 8 (by kernel_rfl) (by kernel_rfl)
theorem readsIt (os : Os) {H : Type} (enc : TypeId × Value → H) : ∃ ds places, DataW.whole enc Tryd.prog ((World.doorLaid Tryd.prog 2000 os).forCall (fun _ _ => 0) ⟨#[], #[.slice none 0 0], []⟩).memory Tryd.f3.params.toList Rows.fnStringsSpec.vars false #[Value.slice none 0 0].toList 8 = some ([ds], [], places) :=
  ⟨.nil, [], by kernel_rfl⟩

set_option maxRecDepth 100000 in
theorem lifted (os : Os) (started : os.Started) (H : Type) (enc : TypeId × Value → H) (F : Stop.Interp) :
    ReturnsInHanded {} Tryd.checked os 3 .any ((OpenSpec.ofChange Rows.fnStringsSpec).preRow enc Tryd.prog Tryd.f3 Rows.fnStringsRow.domain false Rows.fnStringsRow.laid) (((OpenSpec.ofChange Rows.fnStringsSpec).at F).post enc Tryd.prog Tryd.f3 false true false false) := by
  obtain ⟨d, places, hx⟩ := readsIt os enc
  refine returnsInHanded_of_row (C := Tryd.checked) (s := OpenSpec.ofChange Rows.fnStringsSpec) own started (by kernel_rfl) Tryd.func3
    (witness_row_atRef (enc := enc) (C := Tryd.checked) false (World.doorLaid Tryd.prog 2000 os) #[.slice none 0 0] rfl (by kernel_rfl) (by kernel_rfl) (by kernel_rfl)
      (OpenSpec.preRow_of_cond 8 hx (by kernel_rfl) (fun k hk => by cases hk) (by kernel_rfl) (laid_met os))) ?_
  intro W base args ds gs before hval hW _ _ _ hL _ _
  exact contract H enc W base args ds gs before hval hW hL

theorem said : Rows.FnStringsSaid :=
  OpenClaim.holds_of_cond 3 Tryd.f3 rfl rfl rfl rfl rfl rfl rfl ⟨rfl, rfl, rfl, rfl, rfl⟩ rfl rfl rfl rfl rfl (by kernel_rfl) Tryd.func3 (by kernel_rfl)
    (of_decide_eq_true (by kernel_rfl)) (by unfold Func.isWrapper; first | (rw [if_pos (by decide +kernel)]; kernel_rfl) | (rw [if_neg (by decide +kernel)]; exact ⟨rfl, rfl⟩))
    (fun os started H enc _ F => by rw [OpenClaim.pre_eq_preRow]; exact lifted os started H enc F)

theorem plain (f : FuncId) (fn : Func) (hf : Tryd.pinned.checked.prog.funcNamed "loop.example/g00933/laws.FnStrings" = some f) (hfn : Tryd.pinned.checked.prog.funcs[f]? = some fn) :
    true = Tryd.pinned.checked.prog.looks [] ∧ ∀ (j : Nat) t, fn.params[j]? = some t → Tryd.pinned.checked.prog.wantsStandIn t = false := by
  obtain rfl : f = 3 := Option.some.inj ((show Tryd.prog.funcNamed "loop.example/g00933/laws.FnStrings" = some 3 by kernel_rfl).symm.trans hf) |>.symm
  obtain rfl : fn = Tryd.f3 := (Option.some.inj (Tryd.func3.symm.trans hfn)).symm
  refine ⟨by kernel_rfl, fun j t ht => ?_⟩
  rw [Tryd.params3] at ht
  obtain rfl : t = 22 := by simpa using Array.mem_of_getElem? ht
  exact (show Tryd.prog.wantsStandIn 22 = false by kernel_rfl)

theorem proved : Rows.FnStringsCardSaid :=
  Claim7.holds_tied_plain_at .later [] _ _ _ _ said (fun _ h => by cases h) (by kernel_rfl) (fun _ h => by cases h) fnStrings_row_tie rfl ⟨rfl, rfl⟩ (by kernel_rfl) rfl plain (by kernel_rfl)
#print axioms proved
end Go.Proofs.YthpmgapgjfabgaaDoor.fnStrings
