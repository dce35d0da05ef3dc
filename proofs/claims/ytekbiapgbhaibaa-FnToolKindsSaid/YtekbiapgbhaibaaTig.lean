/-
  FnToolKinds: the law's walk.
  Conditions: the code has at most 65536 bytes.
-/
import Derived.Test.YtekbiapgbhaibaaTif
import Derived.Test.YtekbiapgbhaibaaEReadBack
namespace Go.Proofs.Ytekbiapgbhaibaa.tig
open Go.RowKit
open reads curs curd tl tlp tli tif
set_option linter.unusedVariables false
set_option linter.unusedSimpArgs false

def LawPost (w : World) (e : Ending) (w' : World) : Prop := e = .returned (.bool true) ∧ Below w.heap.size w w'
theorem scale_m {x : Tl} {A : Option Addr} {n cap : Nat} {cs : List Ck} {r : Tl × Bool} {w : World} (hn : n ≤ 2000000) (hcs : Hid (CksAt w w.heap.size A n cs)) (h : Hid (fitS x cs = r)) : Calls Try.prog 31 #[.agg #[.int .i64 x.id, .int .i64 x.kind, .int .i64 x.zero, .int .i64 x.scale], .slice A n cap] w (TPost r w) := by rw [← h.out]; exact fitScale_model x A n cap cs w hn hcs
theorem scale_i {x : Tl} {A : Option Addr} {n cap : Nat} {cs : List Ck} {r : Tl × Bool} {w : World} (hn : n ≤ 2000000) (hcs : Hid (CksAt w w.heap.size A n cs)) (h : Hid (fitS x cs = r)) : Calls Try.prog 30 #[.agg #[.int .i64 x.id, .int .i64 x.kind, .int .i64 x.zero, .int .i64 x.scale], .slice A n cap] w (TPost r w) := by rw [← h.out]; exact fitScale_impl x A n cap cs w hn hcs
theorem of_i {A : Option Addr} {n cap : Nat} {ts : List Tl} {q : Int} {xs : List Int} {t : Bool} {w : World} (hn : n ≤ 2000000) (hts : Hid (TlsAt w w.heap.size A n ts)) (h1 : Hid (toIds ts q = xs)) (h2 : Hid (toOk ts q = t)) : Calls Try.prog 33 #[.slice A n cap, .int .i64 q] w (LPost xs t w) := by rw [← h1.out, ← h2.out]; exact toolsOf_impl A n cap ts q w hn hts
theorem of_m {A : Option Addr} {n cap : Nat} {ts : List Tl} {q : Int} {xs : List Int} {t : Bool} {w : World} (hn : n ≤ 2000000) (hts : Hid (TlsAt w w.heap.size A n ts)) (h1 : Hid (toIds ts q = xs)) (h2 : Hid (toOk ts q = t)) : Calls Try.prog 34 #[.slice A n cap, .int .i64 q] w (LPost xs t w) := by rw [← h1.out, ← h2.out]; exact toolsOf_model A n cap ts q w hn hts
theorem are_m {A : Option Addr} {n cap : Nat} {ts : List Tl} {t : Bool} {w : World} (hn : n ≤ 2000000) (hts : Hid (TlsAt w w.heap.size A n ts)) (h : Hid (good ts = t)) : Calls Try.prog 39 #[.slice A n cap] w (BPost t w) := by rw [← h.out]; exact areTools_model A n cap ts w hn hts
theorem il_of {w : World} {base n : Nat} {e : TypeId} {A : Option Addr} {c : Nat} {xs : List Int} (h : w.ownsRow base e 1 (.slice A n c) n (tl.intsV xs)) : ints.IL w A n xs := ints.IL.of_own h
/-- how many ids the first k kinds have -/
def nsum (ts : List Tl) : Nat → Nat
  | 0 => 0
  | k + 1 => nsum ts k + (idsOf ts (k : Int)).length
theorem nsum_le (ts : List Tl) : ∀ k, nsum ts k ≤ k * ts.length
  | 0 => by simp [nsum]
  | k + 1 => by
    have a := nsum_le ts k
    have b := ids_len ts (k : Int)
    unfold nsum
    rw [Nat.succ_mul]; omega
theorem nsum_all {ts : List Tl} (h : good ts = true) : nsum ts 3 = ts.length := by
  have := kinds_sum ts (good_kinds h)
  simp [nsum]; omega
theorem tls_alloc {w : World} {A : Option Addr} {n : Nat} {ts : List Tl} (h : TlsAt w w.heap.size A n ts) (o : Obj) : TlsAt (w.alloc o) (w.alloc o).heap.size A n ts := tls_step h ((Below.refl _ _).alloc (Nat.le_refl _) _)
set_option maxHeartbeats 8000000 in
set_option maxRecDepth 100000 in
theorem walk (A : Option Addr) (n cap : Nat) (zs : List UInt8) (w : World) (hn : n ≤ 65536) (hS : Hid (St w A n zs w)) :
    Calls Try.prog 4 #[.slice A n cap] w (LawPost w) := by
  have HB := Lib.hid (rs.big_no A n cap w hn)
  clear hn
  go_enter Try.func4, Try.ntmps4
  go_wp2_with fail
  refine HB.out.mono ?_
  rintro e w' ⟨rfl, rfl⟩
  clear HB
  go_wp2_with fail
  refine (scale_draw A n cap zs _ (Lib.hid hS.out.2)).mono ?_
  rintro e W1 ⟨t, v, cs, rfl, hO, hl, b⟩
  obtain ⟨CA, cc, rfl⟩ : ∃ CA cc, v = .slice CA cs.length cc := by obtain ⟨CA, cc, h⟩ := own_sl hO; exact ⟨CA, cc, h⟩
  have HO := Lib.hid hO
  clear hO
  obtain ⟨m, HM⟩ : ∃ m, Hid (cs.length = m) := ⟨_, Lib.hid rfl⟩
  have hm12 : m ≤ 12 := by rw [← HM.out]; exact hl
  have HC0 := Lib.hid (cks_own HO.out)
  rw [HM.out] at HC0
  rw [HM.out]
  clear hl HO
  have H1 := Lib.hid (show St w A n zs W1 from hS.out.step b)
  clear b hS
  go_wp2_with fail
  have H2 := Lib.hid (tl.cks_alloc HC0.out (.cells #[.int .i64 t.id, .int .i64 t.kind, .int .i64 t.zero, .int .i64 t.scale] 25))
  clear HC0
  obtain ⟨W2, HW⟩ : ∃ W2, Hid (W1.alloc (.cells #[.int .i64 t.id, .int .i64 t.kind, .int .i64 t.zero, .int .i64 t.scale] 25) = W2) := ⟨_, Lib.hid rfl⟩
  have H3 := Lib.hid (show St w A n zs W2 by rw [← HW.out]; exact (H1.out.alloc _))
  have H4 := Lib.hid (show Blk W2 (W1.heap.size) 25 #[.int .i64 t.id, .int .i64 t.kind, .int .i64 t.zero, .int .i64 t.scale] by rw [← HW.out]; exact Blk.new _ _ _)
  rw [HW.out] at H2
  rw [HW.out]
  clear HW H1
  obtain ⟨r9, HR9⟩ : ∃ r9, Hid (fitS t cs = r9) := ⟨_, Lib.hid rfl⟩
  obtain ⟨⟨f0, f1, f2, f3⟩, ok⟩ := r9
  refine (scale_i (by omega) H2 HR9).mono ?_
  rintro e W3 ⟨rfl, b⟩
  have H5 := Lib.hid (show St w A n zs W3 from H3.out.step b)
  have H6 := Lib.hid (show Blk W3 (W1.heap.size) 25 #[.int .i64 t.id, .int .i64 t.kind, .int .i64 t.zero, .int .i64 t.scale] from H4.out.below b H4.out.lt)
  have H7 := Lib.hid (show CksAt W3 W3.heap.size CA m cs from cks_keep H2.out b)
  clear b H3 H4 H2
  have q_tl := H6.out.lt
  have q_t0 : W3.cell? ⟨W1.heap.size, 0, none⟩ = some (.int .i64 t.id) := H6.out.cell 0
  have q_t1 : W3.cell? ⟨W1.heap.size, 1, none⟩ = some (.int .i64 t.kind) := H6.out.cell 1
  have q_t2 : W3.cell? ⟨W1.heap.size, 2, none⟩ = some (.int .i64 t.zero) := H6.out.cell 2
  have q_t3 : W3.cell? ⟨W1.heap.size, 3, none⟩ = some (.int .i64 t.scale) := H6.out.cell 3
  go_wp2_with fail
  clear q_tl q_t0 q_t1 q_t2 q_t3
  have H8 := Lib.hid (tl.cks_alloc H7.out (.cells #[.int .i64 f0, .int .i64 f1, .int .i64 f2, .int .i64 f3] 25))
  clear H7
  obtain ⟨W4, HW⟩ : ∃ W4, Hid (W3.alloc (.cells #[.int .i64 f0, .int .i64 f1, .int .i64 f2, .int .i64 f3] 25) = W4) := ⟨_, Lib.hid rfl⟩
  have H9 := Lib.hid (show St w A n zs W4 by rw [← HW.out]; exact (H5.out.alloc _))
  have H10 := Lib.hid (show Blk W4 (W1.heap.size) 25 #[.int .i64 t.id, .int .i64 t.kind, .int .i64 t.zero, .int .i64 t.scale] by rw [← HW.out]; exact (H6.out.alloc _))
  have H11 := Lib.hid (show Blk W4 (W3.heap.size) 25 #[.int .i64 f0, .int .i64 f1, .int .i64 f2, .int .i64 f3] by rw [← HW.out]; exact Blk.new _ _ _)
  rw [HW.out] at H8
  rw [HW.out]
  clear HW H5 H6
  refine (scale_m (by omega) H8 HR9).mono ?_
  rintro e W5 ⟨rfl, b⟩
  have H12 := Lib.hid (show St w A n zs W5 from H9.out.step b)
  have H13 := Lib.hid (show Blk W5 (W1.heap.size) 25 #[.int .i64 t.id, .int .i64 t.kind, .int .i64 t.zero, .int .i64 t.scale] from H10.out.below b H10.out.lt)
  have H14 := Lib.hid (show Blk W5 (W3.heap.size) 25 #[.int .i64 f0, .int .i64 f1, .int .i64 f2, .int .i64 f3] from H11.out.below b H11.out.lt)
  have H15 := Lib.hid (show CksAt W5 W5.heap.size CA m cs from cks_keep H8.out b)
  clear b H9 H10 H11 H8
  go_upto_region 6 with fail
  have H16 := Lib.hid (tl.cks_alloc H15.out (.cells #[.int .i64 f0, .int .i64 f1, .int .i64 f2, .int .i64 f3] 25))
  clear H15
  obtain ⟨W6, HW⟩ : ∃ W6, Hid (W5.alloc (.cells #[.int .i64 f0, .int .i64 f1, .int .i64 f2, .int .i64 f3] 25) = W6) := ⟨_, Lib.hid rfl⟩
  have H17 := Lib.hid (show St w A n zs W6 by rw [← HW.out]; exact (H12.out.alloc _))
  have H18 := Lib.hid (show Blk W6 (W1.heap.size) 25 #[.int .i64 t.id, .int .i64 t.kind, .int .i64 t.zero, .int .i64 t.scale] by rw [← HW.out]; exact (H13.out.alloc _))
  have H19 := Lib.hid (show Blk W6 (W3.heap.size) 25 #[.int .i64 f0, .int .i64 f1, .int .i64 f2, .int .i64 f3] by rw [← HW.out]; exact (H14.out.alloc _))
  have H20 := Lib.hid (show Blk W6 (W5.heap.size) 25 #[.int .i64 f0, .int .i64 f1, .int .i64 f2, .int .i64 f3] by rw [← HW.out]; exact Blk.new _ _ _)
  rw [HW.out] at H16
  rw [HW.out]
  clear HW H12 H13 H14
  go_cut [72] (fun v wx => v = .bool false ∧ Blk wx (W1.heap.size) 25 #[.int .i64 t.id, .int .i64 t.kind, .int .i64 t.zero, .int .i64 t.scale] ∧ Blk wx (W3.heap.size) 25 #[.int .i64 f0, .int .i64 f1, .int .i64 f2, .int .i64 f3] ∧ CksAt wx wx.heap.size CA m cs ∧ St w A n zs wx)
  case first =>
    as_aux_lemma =>
      have hzz := fun h => fitS_tool (x := t) (cs := cs) h
      rw [HR9.out] at hzz
      simp only at hzz
      cases ok
      · clear hzz
        have q_fl := H19.out.lt
        have q_f0 : W6.cell? ⟨W3.heap.size, 0, none⟩ = some (.int .i64 f0) := H19.out.cell 0
        have q_f1 : W6.cell? ⟨W3.heap.size, 1, none⟩ = some (.int .i64 f1) := H19.out.cell 1
        have q_f2 : W6.cell? ⟨W3.heap.size, 2, none⟩ = some (.int .i64 f2) := H19.out.cell 2
        have q_f3 : W6.cell? ⟨W3.heap.size, 3, none⟩ = some (.int .i64 f3) := H19.out.cell 3
        have q_zl := H20.out.lt
        have q_z0 : W6.cell? ⟨W5.heap.size, 0, none⟩ = some (.int .i64 f0) := H20.out.cell 0
        have q_z1 : W6.cell? ⟨W5.heap.size, 1, none⟩ = some (.int .i64 f1) := H20.out.cell 1
        have q_z2 : W6.cell? ⟨W5.heap.size, 2, none⟩ = some (.int .i64 f2) := H20.out.cell 2
        have q_z3 : W6.cell? ⟨W5.heap.size, 3, none⟩ = some (.int .i64 f3) := H20.out.cell 3
        go_wp2_with fail
        clear q_fl q_f0 q_f1 q_f2 q_f3 q_zl q_z0 q_z1 q_z2 q_z3
        go_meet
        case rel => exact ⟨rfl, H18.out, H19.out, H16.out, H17.out⟩
      · obtain ⟨hz1, hz2⟩ := hzz rfl
        subst hz1
        have HTK := Lib.hid hz2
        clear hz2 hzz
        have q_fl := H19.out.lt
        have q_f0 : W6.cell? ⟨W3.heap.size, 0, none⟩ = some (.int .i64 f0) := H19.out.cell 0
        have q_f1 : W6.cell? ⟨W3.heap.size, 1, none⟩ = some (.int .i64 f1) := H19.out.cell 1
        have q_f2 : W6.cell? ⟨W3.heap.size, 2, none⟩ = some (.int .i64 t.zero) := H19.out.cell 2
        have q_f3 : W6.cell? ⟨W3.heap.size, 3, none⟩ = some (.int .i64 f3) := H19.out.cell 3
        have q_zl := H20.out.lt
        have q_z0 : W6.cell? ⟨W5.heap.size, 0, none⟩ = some (.int .i64 f0) := H20.out.cell 0
        have q_z1 : W6.cell? ⟨W5.heap.size, 1, none⟩ = some (.int .i64 f1) := H20.out.cell 1
        have q_z2 : W6.cell? ⟨W5.heap.size, 2, none⟩ = some (.int .i64 t.zero) := H20.out.cell 2
        have q_z3 : W6.cell? ⟨W5.heap.size, 3, none⟩ = some (.int .i64 f3) := H20.out.cell 3
        have q_tl := H18.out.lt
        have q_t0 : W6.cell? ⟨W1.heap.size, 0, none⟩ = some (.int .i64 t.id) := H18.out.cell 0
        have q_t1 : W6.cell? ⟨W1.heap.size, 1, none⟩ = some (.int .i64 t.kind) := H18.out.cell 1
        have q_t2 : W6.cell? ⟨W1.heap.size, 2, none⟩ = some (.int .i64 t.zero) := H18.out.cell 2
        have q_t3 : W6.cell? ⟨W1.heap.size, 3, none⟩ = some (.int .i64 t.scale) := H18.out.cell 3
        go_wp2_with fail
        clear q_fl q_f0 q_f1 q_f2 q_f3 q_zl q_z0 q_z1 q_z2 q_z3 q_tl q_t0 q_t1 q_t2 q_t3
        refine (isTool_is ⟨f0, f1, t.zero, f3⟩ true HTK _).mono ?_
        rintro e W7 ⟨rfl, b⟩
        have H21 := Lib.hid (show St w A n zs W7 from H17.out.step b)
        have H22 := Lib.hid (show Blk W7 (W1.heap.size) 25 #[.int .i64 t.id, .int .i64 t.kind, .int .i64 t.zero, .int .i64 t.scale] from H18.out.below b H18.out.lt)
        have H23 := Lib.hid (show Blk W7 (W3.heap.size) 25 #[.int .i64 f0, .int .i64 f1, .int .i64 t.zero, .int .i64 f3] from H19.out.below b H19.out.lt)
        have H24 := Lib.hid (show Blk W7 (W5.heap.size) 25 #[.int .i64 f0, .int .i64 f1, .int .i64 t.zero, .int .i64 f3] from H20.out.below b H20.out.lt)
        have H25 := Lib.hid (show CksAt W7 W7.heap.size CA m cs from cks_keep H16.out b)
        clear b H17 H18 H19 H20 H16
        go_wp2_with fail
        go_meet
        case rel => exact ⟨rfl, H22.out, H23.out, H25.out, H21.out⟩
  case rest =>
    as_aux_lemma =>
      obtain ⟨rfl, k1, k2, k3, k4⟩ := hcut
      have C1 := Lib.hid k1
      have C2 := Lib.hid k2
      have C3 := Lib.hid k3
      have C4 := Lib.hid k4
      clear k1 k2 k3 k4 H17 H18 H19 H20 H16
      have q_tl := C1.out.lt
      have q_t0 := C1.out.cell 0
      have q_t1 := C1.out.cell 1
      have q_t2 := C1.out.cell 2
      have q_t3 := C1.out.cell 3
      simp only [List.getElem?_toArray, List.getElem?_cons_zero, List.getElem?_cons_succ] at q_t0 q_t1 q_t2 q_t3
      go_wp2_with fail
      clear q_tl q_t0 q_t1 q_t2 q_t3
      obtain ⟨a0, d0, told, hw⟩ : ∃ a d t9, ansWorst t cs = .tuple #[.int .i64 a, .int .i64 d, .bool t9] := by rcases worst_form t cs with h | ⟨-, h⟩; exact ⟨_, _, _, h⟩; exact ⟨_, _, _, h⟩
      have HWO := Lib.hid hw
      clear hw
      refine (worst_i (by omega) C3 HWO).mono ?_
      rintro e W8 ⟨rfl, b⟩
      have H26 := Lib.hid (show Blk W8 (W1.heap.size) 25 #[.int .i64 t.id, .int .i64 t.kind, .int .i64 t.zero, .int .i64 t.scale] from C1.out.below b C1.out.lt)
      have H27 := Lib.hid (show Blk W8 (W3.heap.size) 25 #[.int .i64 f0, .int .i64 f1, .int .i64 f2, .int .i64 f3] from C2.out.below b C2.out.lt)
      have H28 := Lib.hid (show CksAt W8 W8.heap.size CA m cs from cks_keep C3.out b)
      have H29 := Lib.hid (show St w A n zs W8 from C4.out.step b)
      clear b C1 C2 C3 C4
      obtain ⟨b9, HB9⟩ : ∃ b9, Hid ((told && t.kind == 0) = b9) := ⟨_, Lib.hid rfl⟩
      go_upto_region 9 with fail
      go_cut [85] (fun v wx => v = .bool b9 ∧ Blk wx (W1.heap.size) 25 #[.int .i64 t.id, .int .i64 t.kind, .int .i64 t.zero, .int .i64 t.scale] ∧ Blk wx (W3.heap.size) 25 #[.int .i64 f0, .int .i64 f1, .int .i64 f2, .int .i64 f3] ∧ CksAt wx wx.heap.size CA m cs ∧ St w A n zs wx)
      case first =>
        as_aux_lemma =>
          cases told
          · have hb9 : b9 = false := by rw [← HB9.out]; rfl
            subst hb9
            have q_tl := H26.out.lt
            have q_t0 : W8.cell? ⟨W1.heap.size, 0, none⟩ = some (.int .i64 t.id) := H26.out.cell 0
            have q_t1 : W8.cell? ⟨W1.heap.size, 1, none⟩ = some (.int .i64 t.kind) := H26.out.cell 1
            have q_t2 : W8.cell? ⟨W1.heap.size, 2, none⟩ = some (.int .i64 t.zero) := H26.out.cell 2
            have q_t3 : W8.cell? ⟨W1.heap.size, 3, none⟩ = some (.int .i64 t.scale) := H26.out.cell 3
            go_wp2_with fail
            clear q_tl q_t0 q_t1 q_t2 q_t3
            go_meet
            case rel => exact ⟨rfl, H26.out, H27.out, H28.out, H29.out⟩
          · have hb9 : b9 = (t.kind == 0) := by rw [← HB9.out]; rfl
            subst hb9
            clear HB9
            have q_tl := H26.out.lt
            have q_t0 : W8.cell? ⟨W1.heap.size, 0, none⟩ = some (.int .i64 t.id) := H26.out.cell 0
            have q_t1 : W8.cell? ⟨W1.heap.size, 1, none⟩ = some (.int .i64 t.kind) := H26.out.cell 1
            have q_t2 : W8.cell? ⟨W1.heap.size, 2, none⟩ = some (.int .i64 t.zero) := H26.out.cell 2
            have q_t3 : W8.cell? ⟨W1.heap.size, 3, none⟩ = some (.int .i64 t.scale) := H26.out.cell 3
            go_wp2_with fail
            clear q_tl q_t0 q_t1 q_t2 q_t3
            go_meet
            case rel => exact ⟨by simp, H26.out, H27.out, H28.out, H29.out⟩
      case rest =>
        as_aux_lemma =>
          obtain ⟨rfl, k1, k2, k3, k4⟩ := hcut
          have D1 := Lib.hid k1
          have D2 := Lib.hid k2
          have D3 := Lib.hid k3
          have D4 := Lib.hid k4
          clear k1 k2 k3 k4 H26 H27 H28 H29
          go_upto_if 85 with fail
          go_cut [12] (fun _ wx => St w A n zs wx)
          case first =>
            as_aux_lemma =>
              cases b9
              · go_wp2_with fail
                go_meet
                case rel => exact D4.out
              · have hk : ((cksOk t cs = true ∧ 0 ≤ (wv t cs).1) ∧ d0 = (wv t cs).2) ∧ t.kind = 0 := by
                  have hb := HB9.out
                  simp only [Bool.and_eq_true, beq_iff_eq] at hb
                  refine ⟨?_, hb.2⟩
                  rcases worst_form t cs with h | ⟨h1, h2⟩
                  · rw [HWO.out, hb.1] at h; simp at h
                  · rw [HWO.out] at h2; exact ⟨h1, by simp at h2; exact h2.2.1⟩
                obtain ⟨b1, b2, b3, b4⟩ := fitS_best hk.1.1.1 hk.2 hk.1.1.2
                rw [HR9.out] at b1 b2 b3 b4
                simp only at b1 b2 b3 b4
                subst b1
                have HWF := Lib.hid (show ansWorst ⟨f0, f1, f2, f3⟩ cs = .tuple #[.int .i64 (wv ⟨f0, f1, f2, f3⟩ cs).1, .int .i64 (wv ⟨f0, f1, f2, f3⟩ cs).2, .bool true] from if_pos ⟨b2, b3⟩)
                obtain ⟨d1, HD1⟩ : ∃ d1, Hid ((wv ⟨f0, f1, f2, f3⟩ cs).2 = d1) := ⟨_, Lib.hid rfl⟩
                obtain ⟨a1, HA1⟩ : ∃ a1, Hid ((wv ⟨f0, f1, f2, f3⟩ cs).1 = a1) := ⟨_, Lib.hid rfl⟩
                rw [HD1.out, HA1.out] at HWF
                have hle : d1 ≤ d0 := by rw [← HD1.out, hk.1.2]; exact b4
                clear hk b2 b3 b4 HD1 HA1 HWO HR9 HB9
                have q_fl := D2.out.lt
                have q_f0 := D2.out.cell 0
                have q_f1 := D2.out.cell 1
                have q_f2 := D2.out.cell 2
                have q_f3 := D2.out.cell 3
                simp only [List.getElem?_toArray, List.getElem?_cons_zero, List.getElem?_cons_succ] at q_f0 q_f1 q_f2 q_f3
                go_wp2_with fail
                clear q_fl q_f0 q_f1 q_f2 q_f3
                refine (worst_i (x := ⟨f0, f1, f2, f3⟩) (by omega) D3 HWF).mono ?_
                rintro e W9 ⟨rfl, b⟩
                have H30 := Lib.hid (show Blk W9 (W1.heap.size) 25 #[.int .i64 t.id, .int .i64 t.kind, .int .i64 t.zero, .int .i64 t.scale] from D1.out.below b D1.out.lt)
                have H31 := Lib.hid (show Blk W9 (W3.heap.size) 25 #[.int .i64 f0, .int .i64 f1, .int .i64 f2, .int .i64 f3] from D2.out.below b D2.out.lt)
                have H32 := Lib.hid (show CksAt W9 W9.heap.size CA m cs from cks_keep D3.out b)
                have H33 := Lib.hid (show St w A n zs W9 from D4.out.step b)
                clear b D1 D2 D3 D4
                go_wp2_with fail
                go_meet
                case rel => exact H33.out
          case rest =>
            as_aux_lemma =>
              have SA := Lib.hid hcut
              clear hcut HWO HR9 HB9 HM hm12 D1 D2 D3 D4
              go_wp2_with fail
              refine (toolsOf_draw A n cap zs _ (Lib.hid SA.out.2)).mono ?_
              rintro e W10 ⟨v, ts, kd, rfl, hO, hl, b⟩
              obtain ⟨LA, lc, rfl⟩ : ∃ LA lc, v = .slice LA ts.length lc := by obtain ⟨LA, lc, h⟩ := own_sl4 hO; exact ⟨LA, lc, h⟩
              have HO := Lib.hid hO
              clear hO
              obtain ⟨m, HM⟩ : ∃ m, Hid (ts.length = m) := ⟨_, Lib.hid rfl⟩
              have hm12 : m ≤ 12 := by rw [← HM.out]; exact hl
              have HC0 := Lib.hid (tls_own HO.out)
              rw [HM.out] at HC0
              rw [HM.out]
              clear hl HO
              have H34 := Lib.hid (show St w A n zs W10 from SA.out.step b)
              clear b SA
              obtain ⟨ids, HI⟩ : ∃ ids, Hid (toIds ts kd = ids) := ⟨_, Lib.hid rfl⟩
              obtain ⟨tk, HT⟩ : ∃ tk, Hid (toOk ts kd = tk) := ⟨_, Lib.hid rfl⟩
              obtain ⟨gd, HG⟩ : ∃ gd, Hid (good ts = gd) := ⟨_, Lib.hid rfl⟩
              have hil : ids.length ≤ 12 := by rw [← HI.out]; unfold toIds; split; (have := ids_len ts kd; have := HM.out; omega); simp
              obtain ⟨p, HP⟩ : ∃ p, Hid (ids.length = p) := ⟨_, Lib.hid rfl⟩
              rw [HP.out] at hil
              go_wp2_with fail
              refine (of_i (by omega) HC0 HI HT).mono ?_
              rintro e W11 ⟨v, rfl, hO, b⟩
              rw [HP.out] at hO
              obtain ⟨gA, gc, rfl⟩ := ints.own_slice hO
              have HOg := Lib.hid (il_of hO)
              have HXg := Lib.hid hO
              clear hO
              have H35 := Lib.hid (show St w A n zs W11 from H34.out.step b)
              have H36 := Lib.hid (show TlsAt W11 W11.heap.size LA m ts from tls_step HC0.out b)
              clear b H34 HC0
              go_wp2_with fail
              refine (of_m (by omega) H36 HI HT).mono ?_
              rintro e W12 ⟨v, rfl, hO, b⟩
              rw [HP.out] at hO
              obtain ⟨hA, hc, rfl⟩ := ints.own_slice hO
              have HOh := Lib.hid (il_of hO)
              have HXh := Lib.hid hO
              clear hO
              have H37 := Lib.hid (show St w A n zs W12 from H35.out.step b)
              have H38 := Lib.hid (show TlsAt W12 W12.heap.size LA m ts from tls_step H36.out b)
              have H39 := Lib.hid (show W12.ownsRow (W10.heap.size) 3 1 (.slice gA p gc) p (tl.intsV ids) from row_below HXg.out b)
              clear b H35 H36 HXg
              go_wp2_with fail
              refine (rs.rints_any gA hA p gc hc ids _ (by omega) (Lib.hid (il_of H39.out)) (Lib.hid (il_of HXh.out))).mono ?_
              rintro e W13 ⟨rfl, mm, hmm⟩
              have b : Below W12.heap.size W12 W13 := by rw [hmm]; exact ends.below_drewN (Below.refl _ _) mm
              clear hmm
              have H40 := Lib.hid (show St w A n zs W13 from H37.out.step b)
              have H41 := Lib.hid (show TlsAt W13 W13.heap.size LA m ts from tls_step H38.out b)
              clear b H37 H38 H39 HXh
              clear HOg HOh
              go_wp2_with fail
              refine (areTools_is _ m _ ts gd _ (by omega) H41 HG).mono ?_
              rintro e W14 ⟨rfl, b⟩
              have H42 := Lib.hid (show St w A n zs W14 from H40.out.step b)
              have H43 := Lib.hid (show TlsAt W14 W14.heap.size LA m ts from tls_step H41.out b)
              clear b H40 H41
              go_upto_if 131 with fail
              go_cut [21] (fun _ wx => TlsAt wx wx.heap.size LA m ts ∧ St w A n zs wx)
              case first =>
                as_aux_lemma =>
                  cases gd
                  · go_wp2_with fail
                    go_meet
                    case rel => exact ⟨H43.out, H42.out⟩
                  · have HA := Lib.hid (nsum_all HG.out)
                    go_wp2_with fail
                    go_loopw [21, 22] (fun q i wr => ∃ k : Nat, k ≤ 3 ∧ i = .int .i64 k ∧ q = .int .i64 (nsum ts k : Nat) ∧ TlsAt wr wr.heap.size LA m ts ∧ St w A n zs wr) (fun _ i _ => 3 - (intOf i).toNat)
                    case atStart => exact ⟨0, by decide, rfl, rfl, H43.out, H42.out⟩
                    case round =>
                      obtain ⟨k, hk, rfl, rfl, h1, h2⟩ := hrel
                      have KL := Lib.hid h1
                      have KS := Lib.hid h2
                      clear h1 h2 H42 H43
                      have hnb : nsum ts k ≤ 36 := by have := nsum_le ts k; rw [HM.out] at this; have := Nat.mul_le_mul hk hm12; omega
                      by_cases hlt : k < 3
                      · obtain ⟨id, HID⟩ : ∃ id, Hid (toIds ts (k : Int) = id) := ⟨_, Lib.hid rfl⟩
                        have hto : toOk ts (k : Int) = true := by unfold toOk; rw [HG.out]; exact btw_mk (a := 0) (x := (k : Int)) (b := 2) (by omega) (by omega)
                        have HTO := Lib.hid hto
                        have HNX := Lib.hid (show nsum ts (k + 1) = nsum ts k + id.length by rw [← HID.out]; unfold toIds; rw [if_pos hto]; rfl)
                        have hidl : id.length ≤ 12 := by rw [← HID.out]; unfold toIds; rw [if_pos hto]; have := ids_len ts (k : Int); have := HM.out; omega
                        obtain ⟨p, HP⟩ : ∃ p, Hid (id.length = p) := ⟨_, Lib.hid rfl⟩
                        rw [HP.out] at HNX hidl
                        obtain ⟨s, HSS⟩ : ∃ s, Hid (nsum ts k = s) := ⟨_, Lib.hid rfl⟩
                        rw [HSS.out] at hnb HNX ⊢
                        clear hto
                        have hkd : decide ((k : Int) ≤ 2) = true := by simp; omega
                        go_wp2_with fail
                        refine (of_i (by omega) KL HID HTO).mono ?_
                        rintro e W15 ⟨v, rfl, hO, b⟩
                        rw [HP.out] at hO
                        obtain ⟨gA, gc, rfl⟩ := ints.own_slice hO
                        have HOg := Lib.hid (il_of hO)
                        have HXg := Lib.hid hO
                        clear hO
                        have H44 := Lib.hid (show TlsAt W15 W15.heap.size LA m ts from tls_step KL.out b)
                        have H45 := Lib.hid (show St w A n zs W15 from KS.out.step b)
                        clear b KL KS
                        go_wp2_with fail
                        go_roundw
                        case rel => exact ⟨k + 1, by omega, by go_num, by rw [HNX.out]; go_num, H44.out, H45.out⟩
                        case measure => simp [intOf]; omega
                      · obtain rfl : k = 3 := by omega
                        rw [HA.out, HM.out]
                        have hkd : decide ((3 : Int) ≤ 2) = false := by decide
                        go_wp2_with fail
                        go_meet
                        case rel => exact ⟨KL.out, KS.out⟩
              case rest =>
                as_aux_lemma =>
                  have SL := Lib.hid hcut.1
                  have SB := Lib.hid hcut.2
                  clear hcut H42 H43
                  go_wp2_with fail
                  refine (read_draw A n cap zs _ (Lib.hid SB.out.2)).mono ?_
                  rintro e W16 ⟨x, cr, rfl, r0, r1, b⟩
                  have H46 := Lib.hid (show St w A n zs W16 from SB.out.step b)
                  have H47 := Lib.hid (show TlsAt W16 W16.heap.size LA m ts from tls_step SL.out b)
                  clear b SB SL
                  obtain ⟨v0, kn, hf⟩ := fnExactReadBack.form x cr
                  have HFm := Lib.hid hf
                  clear hf
                  go_wp2_with fail
                  have H48 := Lib.hid (tls_alloc H47.out (.cells #[.int .i64 x.id, .int .i64 x.kind, .int .i64 x.zero, .int .i64 x.scale] 25))
                  clear H47
                  obtain ⟨W17, HW⟩ : ∃ W17, Hid (W16.alloc (.cells #[.int .i64 x.id, .int .i64 x.kind, .int .i64 x.zero, .int .i64 x.scale] 25) = W17) := ⟨_, Lib.hid rfl⟩
                  have H49 := Lib.hid (show St w A n zs W17 by rw [← HW.out]; exact (H46.out.alloc _))
                  have H50 := Lib.hid (show Blk W17 (W16.heap.size) 25 #[.int .i64 x.id, .int .i64 x.kind, .int .i64 x.zero, .int .i64 x.scale] by rw [← HW.out]; exact Blk.new _ _ _)
                  rw [HW.out] at H48
                  rw [HW.out]
                  clear HW H46
                  refine (fnExactReadBack.RB_any HFm (readBack_impl x cr _)).mono ?_
                  rintro e W18 ⟨rfl, b⟩
                  have H51 := Lib.hid (show St w A n zs W18 from H49.out.step b)
                  have H52 := Lib.hid (show Blk W18 (W16.heap.size) 25 #[.int .i64 x.id, .int .i64 x.kind, .int .i64 x.zero, .int .i64 x.scale] from H50.out.below b H50.out.lt)
                  have H53 := Lib.hid (show TlsAt W18 W18.heap.size LA m ts from tls_step H48.out b)
                  clear b H49 H50 H48
                  have q_xl := H52.out.lt
                  have q_x0 : W18.cell? ⟨W16.heap.size, 0, none⟩ = some (.int .i64 x.id) := H52.out.cell 0
                  have q_x1 : W18.cell? ⟨W16.heap.size, 1, none⟩ = some (.int .i64 x.kind) := H52.out.cell 1
                  have q_x2 : W18.cell? ⟨W16.heap.size, 2, none⟩ = some (.int .i64 x.zero) := H52.out.cell 2
                  have q_x3 : W18.cell? ⟨W16.heap.size, 3, none⟩ = some (.int .i64 x.scale) := H52.out.cell 3
                  go_wp2_with fail
                  clear q_xl q_x0 q_x1 q_x2 q_x3
                  refine (fnExactReadBack.RB_any HFm (readBack_model x cr _)).mono ?_
                  rintro e W19 ⟨rfl, b⟩
                  have H54 := Lib.hid (show St w A n zs W19 from H51.out.step b)
                  have H55 := Lib.hid (show Blk W19 (W16.heap.size) 25 #[.int .i64 x.id, .int .i64 x.kind, .int .i64 x.zero, .int .i64 x.scale] from H52.out.below b H52.out.lt)
                  have H56 := Lib.hid (show TlsAt W19 W19.heap.size LA m ts from tls_step H53.out b)
                  clear b H51 H52 H53
                  go_wp2_with fail
                  refine (areTools_is _ m _ ts gd _ (by omega) H56 HG).mono ?_
                  rintro e W20 ⟨rfl, b⟩
                  have H57 := Lib.hid (show St w A n zs W20 from H54.out.step b)
                  have H58 := Lib.hid (show Blk W20 (W16.heap.size) 25 #[.int .i64 x.id, .int .i64 x.kind, .int .i64 x.zero, .int .i64 x.scale] from H55.out.below b H55.out.lt)
                  have H59 := Lib.hid (show TlsAt W20 W20.heap.size LA m ts from tls_step H56.out b)
                  clear b H54 H55 H56
                  go_wp2_with fail
                  refine (are_m (by omega) H59 HG).mono ?_
                  rintro e W21 ⟨rfl, b⟩
                  have H60 := Lib.hid (show St w A n zs W21 from H57.out.step b)
                  have H61 := Lib.hid (show Blk W21 (W16.heap.size) 25 #[.int .i64 x.id, .int .i64 x.kind, .int .i64 x.zero, .int .i64 x.scale] from H58.out.below b H58.out.lt)
                  have H62 := Lib.hid (show TlsAt W21 W21.heap.size LA m ts from tls_step H59.out b)
                  clear b H57 H58 H59
                  go_wp2_with fail
                  go_ret
                  exact ⟨by simp, H60.out.1⟩
end Go.Proofs.Ytekbiapgbhaibaa.tig
