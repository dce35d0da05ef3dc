/-
  A copy of a text, a number among others, GoOnTrip, by the program.
  Conditions: the lists have at most 2000000 elements and lie in one block each; names have at most 1048576 bytes.
-/
import Derived.Test.YtidofckanadkpaaPiE
import Derived.Lib.Strings
import Derived.Lib.Walk
import Derived.Lib.BufferWrite
import Derived.Lib.UnsafeStr
import Derived.Laws.MakeOwn
namespace Go.Proofs.Ytidofckanadkpaa.pi5
open Go.RowKit
open reads base inn ty rowi psk psl psm psn pso psp pq
set_option linter.unusedVariables false
set_option linter.unusedSimpArgs false

theorem infoU : (Try.prog.info? 5).map (fun i => (i.zero, i.size, i.bytes)) = some (some (.int .u8 0), 1, 1) := by kernel_rfl
set_option maxHeartbeats 4000000 in
set_option maxRecDepth 100000 in
theorem lite_clone (s : ByteArray) (w : World) (hlim : s.size ≤ 1048576) :
    Calls Try.prog 94 #[.string s] w fun e w' => e = .returned (.string s) ∧ Below w.heap.size w w' := by
  by_cases h0 : s.size = 0
  · have hs : s = ⟨#[]⟩ := by
      apply ByteArray.ext
      exact Array.eq_empty_of_size_eq_zero h0
    subst hs
    go_enter Try.func94, Try.ntmps94
    go_wp2
    go_ret
    exact ⟨rfl, Below.refl _ _⟩
  · obtain ⟨i0, hi, hz0, hz1, hz2⟩ := info_parts infoU
    have hinfo : (Try.prog.info? 5).map (·.size) = some 1 := by rw [hi]; simp [hz1]
    have hco : Try.prog.cellsOf 5 = 1 := by simp [Program.cellsOf, hi, hz1]
    obtain ⟨M, hM⟩ : ∃ M, M = madeCells (Value.int .u8 0).cells (((s.size : Nat) : Int).toNat * i0.size) := ⟨_, rfl⟩
    have hMs : M.size = s.size := by rw [hM, size_madeCells, hz1]; simp
    have hmk : ∀ W : World, (Instr.makeSlice 22 (.int .i64 (s.size : Int)) (.int .i64 (s.size : Int))).run Try.prog W = .ok (.slice (some ⟨W.heap.size, 0, none⟩) s.size s.size) (W.alloc (.cells M 5)) := fun W => by
      have h := run_make (P := Try.prog) W 22 5 i0 (.int .u8 0) Try.underlying22 hi hz0 .i64 .i64 (s.size : Int) (s.size : Int) (by omega) (by omega) (by rw [hz2]; omega) (by omega)
      rw [← hM] at h
      simpa using h
    clear hM
    have hcp := Lib.run_copy_row_string (P := Try.prog) (w.alloc (.cells M 5)) 22 9 3 5 w.heap.size 0 s.size s.size s M 5 Try.underlying22 hinfo (heap_alloc_new w _) (Nat.le_refl _) (by omega)
    obtain ⟨Y, hY⟩ : ∃ Y, Y = (M.toList.take 0 ++ Lib.byteCells s.data.toList ++ M.toList.drop (0 + s.size)).toArray := ⟨_, rfl⟩
    rw [← hY] at hcp
    have hYl : Y.toList = Lib.byteCells s.data.toList := by
      rw [hY, List.toList_toArray, List.take_zero, List.nil_append, List.drop_of_length_le (by rw [Array.length_toList]; omega), List.append_nil]
    have hYs : Y.size = s.size := by rw [← Array.length_toList, hYl, Lib.byteCells_length, ← Lib.size_eq]
    have hgY : ((w.alloc (.cells M 5)).setRow w.heap.size Y).heap[w.heap.size]? = some (.cells Y 5 (0, 0)) := setRow_heap _ _ M _ 5 (0, 0) (heap_alloc_new w _)
    have hne : s.data.toList ≠ [] := fun e => h0 (by rw [Lib.size_eq, e]; rfl)
    have hUS := Lib.run_unsafeString_row (P := Try.prog) ((w.alloc (.cells M 5)).setRow w.heap.size Y) 107 3 9 5 Try.underlying107 hco w.heap.size Y.size (by unfold World.shape?; rw [hgY]) s.data.toList hne (by rw [← Lib.size_eq]; omega) (by rw [← Lib.size_eq]; omega)
      (fun j x hx => Lib.cells_of_row hgY Y.size j _ (by rw [List.take_of_length_le (by rw [Array.length_toList]; exact Nat.le_refl _), hYl]; simp [Lib.byteCells, hx]))
    rw [← Lib.size_eq] at hUS
    clear hY
    go_enter Try.func94, Try.ntmps94
    go_wp2
    go_ret
    have hb1 : Below w.heap.size w (w.alloc (.cells M 5)) := (Below.refl _ w).alloc (Nat.le_refl _) _
    have hb2 : Below w.heap.size (w.alloc (.cells M 5)) ((w.alloc (.cells M 5)).setRow w.heap.size Y) := ⟨rfl, rfl, rfl, by simp, fun k hk => setRow_other _ _ _ _ (by omega)⟩
    exact ⟨rfl, Lib.below_freeze (hb1.trans hb2) (p := ⟨w.heap.size, 0, none⟩) (Nat.le_refl _) _⟩
theorem clone_str (s : ByteArray) (w : World) (hlim : s.size ≤ 1048576) :
    Calls Try.prog 71 #[.string s] w fun e w' => e = .returned (.string s) ∧ Below w.heap.size w w' := by
  go_enter Try.func71, Try.ntmps71
  go_wp2_with fail
  refine (lite_clone s _ hlim).mono ?_
  rintro e w1 ⟨rfl, b1⟩
  have HB := Lib.hid b1
  clear b1
  go_wp2_with fail
  go_ret
  exact ⟨rfl, HB.out⟩
set_option maxHeartbeats 4000000 in
theorem index_int (A : Option Addr) (n c : Nat) (xs : List Int) (a : Int) (t : Bool) (h : Hid (mem xs a = t)) (w : World) (hn : n ≤ 2000000) (hx : Hid (ints.IL w A n xs)) :
    Calls Try.prog 95 #[.slice A n c, .int .i64 a] w (IxPost t w) := by
  have hL : Hid (xs.length = n) := Lib.hid hx.out.1
  go_enter Try.func95, Try.ntmps95
  go_wp2_with fail
  go_loop [8] (fun i => ∃ k : Nat, k ≤ n ∧ i = .int .i64 k ∧ Hid ((xs.take k).all (fun x => !(x == a)) = true)) (fun i => n - (intOf i).toNat)
  case atStart => exact ⟨0, Nat.zero_le _, rfl, Lib.hid (by simp)⟩
  case round =>
    obtain ⟨k, hk, rfl, HI⟩ := hrel
    have hk0 : 0 ≤ (k : Int) := by omega
    by_cases h1 : k < n
    · have hki : (k : Int) < (n : Int) := by omega
      have hkd : decide (k < n) = true := by simpa using h1
      obtain ⟨x, hxk⟩ := at_lt hL.out h1
      obtain ⟨g, rfl, e0⟩ := hx.out.2 k x hxk
      have HK := Lib.hid hxk
      clear hxk
      by_cases he : x = a
      · have HF := Lib.hid (show mem xs a = true from mem_yes HK.out he)
        have hd2 : (a == x) = true := by simpa using he.symm
        subst he
        go_wp2_with fail
        go_ret
        exact ⟨k, rfl, by omega, by rw [← h.out, HF.out]; simp, rfl⟩
      · have HN := Lib.hid (all_take (p := fun x => !(x == a)) HK.out HI.out (by simpa using he))
        have hd2 : (a == x) = false := by simp; omega
        have hd3 : decide (a = x) = false := by simp; omega
        clear he
        go_wp2_with fail
        go_round
        case rel => exact ⟨k + 1, by omega, by go_num, HN⟩
        case measure => simp [intOf]; omega
    · have hkd : decide (k < n) = false := by simpa using h1
      obtain rfl : k = n := by omega
      have HF := Lib.hid (show mem xs a = false from mem_no (by rw [hL.out]; exact HI.out))
      clear h1
      go_wp2_with fail
      go_ret
      exact ⟨-1, rfl, by omega, by rw [← h.out, HF.out]; rfl, rfl⟩
theorem contains_int (A : Option Addr) (n c : Nat) (xs : List Int) (a : Int) (t : Bool) (h : Hid (mem xs a = t)) (w : World) (hn : n ≤ 2000000) (hx : Hid (ints.IL w A n xs)) :
    Calls Try.prog 72 #[.slice A n c, .int .i64 a] w fun e w' => e = .returned (.bool t) ∧ w = w' := by
  go_enter Try.func72, Try.ntmps72
  go_wp2_with fail
  refine (index_int A n c xs a t h _ hn hx).mono ?_
  rintro e w1 ⟨r, rfl, ⟨h1, h2⟩, h3, rfl⟩
  go_wp2_with fail
  go_ret
  exact ⟨rfl, rfl⟩
theorem gone_next {ts : List Ps} {xs : List Int} {k : Nat} {t : Ps} (h : ts[k]? = some t) : gone (ts.take (k + 1)) xs = gone (ts.take k) xs ++ [trip xs t] := by
  unfold gone; rw [base.take_snoc h, List.map_append]; rfl
set_option maxHeartbeats 8000000 in
set_option maxRecDepth 100000 in
theorem goOnTrip_is (A : Option Addr) (n cap : Nat) (ts : List Ps) (A' : Option Addr) (m cap' : Nat) (xs : List Int) (P : List Ps) (q : Bool) (w : World) (hP : Hid (gtPs ts xs = P)) (hq : Hid (gtOk ts xs = q)) (hn : n ≤ 2000000) (hm : m ≤ 2000000) (hs : Hid (∀ t ∈ ts, t.name.size ≤ 1048576)) (hts : Hid (PsAt w w.heap.size A n ts)) (hxs : Hid (InAt w w.heap.size A' m xs)) :
    Calls Try.prog 22 #[.slice A n cap, .slice A' m cap'] w (PPost P q w) := by
  have hL : Hid (ts.length = n) := Lib.hid hts.out.1
  obtain ⟨M, HM⟩ : ∃ M, Hid (mb ts xs = M) := ⟨_, Lib.hid rfl⟩
  cases ha : (asked ts xs && team ts xs)
  · have HA := Lib.hid ha
    obtain rfl : q = false := by rw [← hq.out]; unfold gtOk; rw [ha]; rfl
    obtain rfl : P = [] := by rw [← hP.out]; unfold gtPs; rw [hq.out]; rfl
    clear ha
    go_enter Try.func22, Try.ntmps22
    go_wp2_with fail
    refine (membersOf_is A n cap ts A' m cap' xs M false _ hn hm hs hts hxs HM HA).mono ?_
    rintro e w1 ⟨v, rfl, ho, b1⟩
    obtain ⟨A3, c3, rfl⟩ := row_slice ho
    have HB := Lib.hid b1
    have hBs := b1.size
    clear b1 ho
    have HR := Lib.hid (show (w1.alloc (.cells #[] 41)).ownsRow w.heap.size 41 4 (.slice (some ⟨w1.heap.size, 0, none⟩) 0 0) 0 [] from World.ownsRow_made w1 #[] 0 hBs (by decide) (by simp))
    go_wp2_with fail
    go_ret2
    exact ⟨.slice (some ⟨w1.heap.size, 0, none⟩) 0 0, rfl, HR.out, HB.out.alloc hBs _⟩
  have HA := Lib.hid ha
  have haa : asked ts xs = true := by rw [Bool.and_eq_true] at ha; exact ha.1
  have hn10 : n ≤ 10 := by rw [← hL.out]; exact good_len (asked_parts haa).2.1
  have HD := Lib.hid (asked_bd haa)
  obtain ⟨i0, hi, hz0, hz1, hz2⟩ := info_parts infoPs
  have HRG := Lib.hid (show psg.good (gone ts xs) = q by rw [← hq.out]; unfold gtOk; rw [ha]; rfl)
  have HPY := Lib.hid (show q = true → P = gone ts xs from fun e => by rw [← hP.out]; unfold gtPs; rw [hq.out, e]; rfl)
  have HPN := Lib.hid (show q = false → P = [] from fun e => by rw [← hP.out]; unfold gtPs; rw [hq.out, e]; rfl)
  clear ha haa
  go_enter Try.func22, Try.ntmps22
  go_wp2_with fail
  refine (membersOf_is A n cap ts A' m cap' xs M true _ hn hm hs hts hxs HM HA).mono ?_
  rintro e w1 ⟨v, rfl, ho, b1⟩
  obtain ⟨A0, c0, rfl⟩ := row_slice ho
  obtain ⟨ml, hml⟩ : ∃ ml, M.length = ml := ⟨_, rfl⟩
  rw [hml]
  have HB := Lib.hid b1
  have hBs := b1.size
  clear b1 ho hml
  have HR := Lib.hid (show (w1.alloc (.cells #[] 41)).ownsRow w.heap.size 41 4 (.slice (some ⟨w1.heap.size, 0, none⟩) 0 0) 0 [] from World.ownsRow_made w1 #[] 0 hBs (by decide) (by simp))
  have HE := Lib.hid (HB.out.alloc hBs (.cells #[] 41))
  clear hBs
  go_wp2_with fail
  go_loopw [8, 23] (fun v i wr => ∃ (k c3 : Nat) (A3 : Option Addr) (ps : List Ps), k ≤ n ∧ i = .int .i64 k ∧ v = .slice A3 k c3 ∧ Hid (ps.length = k) ∧ Hid (gone (ts.take k) xs = ps) ∧ Hid (wr.ownsRow w.heap.size 41 4 (.slice A3 k c3) k (flatPs ps)) ∧ Below w.heap.size w wr) (fun _ i _ => n - (intOf i).toNat)
  case atStart => exact ⟨0, _, _, [], Nat.zero_le _, rfl, rfl, Lib.hid rfl, Lib.hid rfl, HR, HE.out⟩
  case round =>
    obtain ⟨k, c3, A3, ps, hk, rfl, rfl, HPL, HGN, HO, hB⟩ := hrel
    have HBr := Lib.hid hB
    have hBs := hB.size
    clear hB HR HE
    by_cases hlt : k < n
    · have hki : (k : Int) < (n : Int) := by omega
      have hk0 : 0 ≤ (k : Int) := by omega
      have hkd : decide (k < n) = true := by simpa using hlt
      obtain ⟨t, htk⟩ := at_lt hL.out hlt
      obtain ⟨g, rfl, hg, h0, h1, h2, h3⟩ := (hts.out.below HBr.out).2 k t htk
      have HNX := Lib.hid (show gone (ts.take (k + 1)) xs = ps ++ [trip xs t] by rw [gone_next htk, HGN.out])
      have htr := (HD.out t (List.mem_of_getElem? htk)).2
      have hnm := hs.out t (List.mem_of_getElem? htk)
      obtain ⟨X, HX⟩ : ∃ X, Hid (wr.heap.size = X) := ⟨_, Lib.hid rfl⟩
      obtain ⟨W, HW, HWO, HWB, HWC⟩ : ∃ W, Hid (wr.alloc (.cells #[.int .i64 t.id, .string t.name, .int .i64 t.skills, .int .i64 t.trips] 41) = W) ∧ Hid (W.ownsRow w.heap.size 41 4 (.slice A3 k c3) k (flatPs ps)) ∧ Hid (Below w.heap.size w W) ∧ Hid (Blk W wr.heap.size 41 #[.int .i64 t.id, .string t.name, .int .i64 t.skills, .int .i64 t.trips]) := ⟨_, Lib.hid rfl, Lib.hid (HO.out.alloc _), Lib.hid (HBr.out.alloc hBs _), Lib.hid (Blk.new _ _ _)⟩
      have HOL := Lib.hid (show ∀ j, (Value.slice A3 k c3).ownBlock = some j → w.heap.size ≤ j ∧ j < X from fun j ej => by rw [← HX.out]; exact HO.out.lt j ej)
      have hwX : w.heap.size ≤ X := by rw [← HX.out]; exact hBs
      rw [HX.out] at HWC
      clear htk
      go_wp2_with fail
      refine (clone_str t.name _ hnm).mono ?_
      rintro e w3 ⟨rfl, b3⟩
      rw [HW.out] at b3
      rw [HX.out]
      have HK3 := Lib.hid (HWC.out.below b3 HWC.out.lt)
      have HB3 := Lib.hid (HWB.out.trans (b3.mono HWB.out.size))
      have HO3 := Lib.hid (row_below HWO.out b3)
      clear b3 h0 h1 h2 h3 HW
      obtain ⟨r1, HR1⟩ : ∃ r, Hid (mem xs t.id = r) := ⟨_, Lib.hid rfl⟩
      have e1 := HK3.out.cell 1
      have f1 := HK3.out.frozen 1
      have e0 := HK3.out.cell 0
      have e2 := HK3.out.cell 2
      have e3 := HK3.out.cell 3
      have f3 := HK3.out.frozen 3
      go_upto_region 9 with fail
      obtain ⟨W4, HW4, HK4, HO4, HB4⟩ : ∃ W4, Hid (w3.setCell ⟨X, 1, none⟩ (.string t.name) = W4) ∧ Hid (Blk W4 X 41 #[.int .i64 t.id, .string t.name, .int .i64 t.skills, .int .i64 t.trips]) ∧ Hid (W4.ownsRow w.heap.size 41 4 (.slice A3 k c3) k (flatPs ps)) ∧ Hid (Below w.heap.size w W4) := by
        refine ⟨_, Lib.hid rfl, Lib.hid ?_, Lib.hid ?_, Lib.hid ?_⟩
        · exact HK3.out.set_ 1 _
        · refine HO3.out.kept (row := some X) ⟨rfl, rfl, rfl, by simp [World.setCell], fun i hi hne => Below.heap_setCell w3 ⟨X, 1, none⟩ _ i (by rintro rfl; exact hne rfl)⟩ ?_
          cases e : (Value.slice A3 k c3).ownBlock with
          | none => exact .inl rfl
          | some j => exact .inr (by have := HOL.out j e; simp; omega)
        · exact HB3.out.setCell hwX _
      rw [HW4.out]
      have HX4 := Lib.hid (show InAt W4 W4.heap.size A' m xs from hxs.out.step HB4.out)
      clear e0 e1 e2 e3 f1 f3 HW4
      have e0 := HK4.out.cell 0
      have e1 := HK4.out.cell 1
      have e2 := HK4.out.cell 2
      have e3 := HK4.out.cell 3
      have f3 := HK4.out.frozen 3
      have hWs := HB4.out.size
      cases r1
      · have HTR := Lib.hid (show trip xs t = t by unfold trip; rw [HR1.out]; rfl)
        go_wp2_with fail
        refine (contains_int A' m cap' xs t.id false HR1 _ hm (Lib.hid HX4.out.il)).mono ?_
        rintro e w5 ⟨rfl, rfl⟩
        go_wp2_with (at_builtin; refine wpList_append_own _ rfl _ _ 24 rfl w.heap.size 41 i0 _ 4 40 Try.underlying24 hi hz0 hz1 hz2 rfl (by decide) _ _ _ rfl (HO4.out.alloc _) ⟨W4.heap.size, 0, none⟩ 1 1 [.int .i64 t.id, .string t.name, .int .i64 t.skills, .int .i64 t.trips] rfl rfl (World.news_of_block (alloc_at rfl)) (by simp [Value.oneCell']) (by unfold maxLen; omega) (by omega) (by simp; omega) ?_; intro v' w9 hown' hgrow _)
        obtain ⟨A9, c9, rfl⟩ := row_slice hown'
        go_roundw
        case rel =>
          refine ⟨k + 1, c9, A9, ps ++ [t], by omega, by go_num, rfl, Lib.hid (by simp [HPL.out]), Lib.hid (by rw [HNX.out, HTR.out]), Lib.hid (by rw [flatPs_app]; exact hown'), ?_⟩
          exact (HB4.out.alloc hWs _).grown hgrow (by simp; omega) (fun j ej => (HO4.out.lt j ej).1)
        case measure => simp [intOf]; omega
      · have HTR := Lib.hid (show trip xs t = ⟨t.id, t.name, t.skills, t.trips + 1⟩ by unfold trip; rw [HR1.out]; rfl)
        go_wp2_with fail
        refine (contains_int A' m cap' xs t.id true HR1 _ hm (Lib.hid HX4.out.il)).mono ?_
        rintro e w5 ⟨rfl, rfl⟩
        go_upto_region 11 with fail
        obtain ⟨W5, HW5, HK5, HO5, HB5⟩ : ∃ W5, Hid (W4.setCell ⟨X, 3, none⟩ (.int .i64 (t.trips + 1)) = W5) ∧ Hid (Blk W5 X 41 #[.int .i64 t.id, .string t.name, .int .i64 t.skills, .int .i64 (t.trips + 1)]) ∧ Hid (W5.ownsRow w.heap.size 41 4 (.slice A3 k c3) k (flatPs ps)) ∧ Hid (Below w.heap.size w W5) := by
          refine ⟨_, Lib.hid rfl, Lib.hid ?_, Lib.hid ?_, Lib.hid ?_⟩
          · exact HK4.out.set_ 3 _
          · refine HO4.out.kept (row := some X) ⟨rfl, rfl, rfl, by simp [World.setCell], fun i hi hne => Below.heap_setCell W4 ⟨X, 3, none⟩ _ i (by rintro rfl; exact hne rfl)⟩ ?_
            cases e : (Value.slice A3 k c3).ownBlock with
            | none => exact .inl rfl
            | some j => exact .inr (by have := HOL.out j e; simp; omega)
          · exact HB4.out.setCell hwX _
        rw [HW5.out]
        clear e0 e1 e2 e3 f3 HW5
        have e0 := HK5.out.cell 0
        have e1 := HK5.out.cell 1
        have e2 := HK5.out.cell 2
        have e3 := HK5.out.cell 3
        have hWs5 := HB5.out.size
        go_wp2_with (at_builtin; refine wpList_append_own _ rfl _ _ 24 rfl w.heap.size 41 i0 _ 4 40 Try.underlying24 hi hz0 hz1 hz2 rfl (by decide) _ _ _ rfl (HO5.out.alloc _) ⟨W5.heap.size, 0, none⟩ 1 1 [.int .i64 t.id, .string t.name, .int .i64 t.skills, .int .i64 (t.trips + 1)] rfl rfl (World.news_of_block (alloc_at rfl)) (by simp [Value.oneCell']) (by unfold maxLen; omega) (by omega) (by simp; omega) ?_; intro v' w9 hown' hgrow _)
        obtain ⟨A9, c9, rfl⟩ := row_slice hown'
        go_roundw
        case rel =>
          refine ⟨k + 1, c9, A9, ps ++ [⟨t.id, t.name, t.skills, t.trips + 1⟩], by omega, by go_num, rfl, Lib.hid (by simp [HPL.out]), Lib.hid (by rw [HNX.out, HTR.out]), Lib.hid (by rw [flatPs_app]; exact hown'), ?_⟩
          exact (HB5.out.alloc hWs5 _).grown hgrow (by simp; omega) (fun j ej => (HO5.out.lt j ej).1)
        case measure => simp [intOf]; omega
    · have hkd : decide (k < n) = false := by simpa using hlt
      obtain rfl : k = n := by omega
      obtain rfl : ps = gone ts xs := by rw [← HGN.out, List.take_of_length_le (by rw [hL.out]; omega)]
      have HP5 := Lib.hid (own_Ps HPL.out HO.out)
      have HNM := Lib.hid (gone_name (xs := xs) hs.out)
      clear hlt
      go_wp2_with fail
      refine (people_is A3 k c3 _ q _ hn HNM HP5 HRG).mono ?_
      rintro e w6 ⟨rfl, b6⟩
      have HB6 := Lib.hid (HBr.out.trans (b6.mono hBs))
      have HO6 := Lib.hid (row_below HO.out b6)
      have hBs6 := HB6.out.size
      clear b6
      cases q
      · obtain rfl : P = [] := HPN.out rfl
        have HR := Lib.hid (show (w6.alloc (.cells #[] 41)).ownsRow w.heap.size 41 4 (.slice (some ⟨w6.heap.size, 0, none⟩) 0 0) 0 [] from World.ownsRow_made w6 #[] 0 hBs6 (by decide) (by simp))
        go_wp2_with fail
        go_ret2
        exact ⟨.slice (some ⟨w6.heap.size, 0, none⟩) 0 0, rfl, HR.out, HB6.out.alloc hBs6 _⟩
      · obtain rfl : P = gone ts xs := HPY.out rfl
        go_wp2_with fail
        go_ret2
        exact ⟨.slice A3 k c3, rfl, by rw [HPL.out]; exact HO6.out, HB6.out⟩
#print axioms clone_str
#print axioms contains_int
#print axioms goOnTrip_is
end Go.Proofs.Ytidofckanadkpaa.pi5
