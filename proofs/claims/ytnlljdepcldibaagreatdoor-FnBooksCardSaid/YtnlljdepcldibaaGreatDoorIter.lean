/-
  The iterator over the pieces of a text between the separators.
  Conditions: the loop body keeps what lay below the given block.
-/
import Derived.RangeFuncBox
import Derived.RangeFuncLeaves
import Derived.Shelf.Abstract
import Derived.WalkKit
import Derived.OwnWalkIn
import Derived.TacticsInMore
import Derived.LoopNIn
import Derived.LoopIn
import Derived.Maps.AppendAt
import Derived.Lib.Hide
import Derived.Sort.LoopGhostIn
import Derived.Scope
import Derived.Lib.Strings
import Derived.Deep.QuietTactic
import Derived.BigQuiet
import Derived.Test.YtnlljdepcldibaaGreatDoorProg
import Derived.Test.YtnlljdepcldibaaGreatDoorChecked
import Derived.Test.YtnlljdepcldibaaGreatDoorStrMath
namespace Go.Proofs.YtnlljdepcldibaaGreatDoor.iterc
open Go.RowKit Go.Shelf
open strmath
set_option linter.unusedVariables false
attribute [local go_sem] Oper.semAt_some

/-- the pieces as texts -/
def pcs (c : UInt8) (l : List UInt8) : List ByteArray := (pieces c l).map fun p => ⟨p.toArray⟩

theorem pcs_hit (s : ByteArray) (c : UInt8) (st e : Nat) (h1 : st ≤ e) (h2 : e < s.size) (hno : c ∉ (s.data.toList.drop st).take (e - st)) (he : s[e] = c) :
    pcs c (s.data.toList.drop st) = s.extract st e :: pcs c (s.data.toList.drop (e + 1)) := by
  have hl : s.data.toList.length = s.size := rfl
  have e1 : s.data.toList.drop st = (s.data.toList.drop st).take (e - st) ++ c :: s.data.toList.drop (e + 1) := by
    have h := (List.take_append_drop (e - st) (s.data.toList.drop st)).symm
    rw [List.drop_drop, show st + (e - st) = e by omega, List.drop_eq_getElem_cons (show e < s.data.toList.length by omega)] at h
    have e2 : s.data.toList[e]'(by omega) = c := he
    rw [e2] at h
    exact h
  rw [pcs, e1, pieces_hit c _ _ hno, List.map_cons, ← pcs]
  congr 1
  apply ByteArray.ext
  exact Array.toList_inj.1 (Lib.extract_data s st e).symm
theorem pcs_last (s : ByteArray) (c : UInt8) (st : Nat) (hno : c ∉ s.data.toList.drop st) : pcs c (s.data.toList.drop st) = [s.extract st s.size] := by
  rw [pcs, pieces_end c _ hno, List.map_cons, List.map_nil]
  congr 1
  apply ByteArray.ext
  refine Array.toList_inj.1 ?_
  rw [Lib.extract_data, List.take_of_length_le]
  rw [List.length_drop]; exact Nat.le_refl _
theorem no_step (s : ByteArray) (c : UInt8) (st e : Nat) (h1 : st ≤ e) (h2 : e < s.size) (hno : c ∉ (s.data.toList.drop st).take (e - st)) (he : s[e] ≠ c) : c ∉ (s.data.toList.drop st).take (e + 1 - st) := by
  have hl : s.data.toList.length = s.size := rfl
  rw [show e + 1 - st = (e - st) + 1 by omega, List.take_succ_eq_append_getElem (by rw [List.length_drop]; omega)]
  intro hm
  rcases List.mem_append.1 hm with hm | hm
  · exact hno hm
  · simp only [List.mem_singleton, List.getElem_drop] at hm
    apply he
    have : s.data.toList[st + (e - st)]'(by omega) = s[e] := by
      show s.data.toList[st + (e - st)]'(by omega) = s.data.toList[e]'(by omega)
      congr 1; omega
    rw [← this]; exact hm.symm
theorem no_all (s : ByteArray) (c : UInt8) (st e : Nat) (h2 : s.size ≤ e) (hno : c ∉ (s.data.toList.drop st).take (e - st)) : c ∉ s.data.toList.drop st := by
  have hl : s.data.toList.length = s.size := rfl
  rwa [List.take_of_length_le (by rw [List.length_drop]; omega)] at hno
theorem pcs_ne (c : UInt8) (l : List UInt8) : 0 < (pcs c l).length := by
  rw [pcs, List.length_map]
  exact List.length_pos_iff.2 (pieces_ne c l)
theorem ext_le (s : ByteArray) (a b : Nat) (hs : s.size ≤ 4000) : (s.extract a b).size ≤ 4000 := by
  rw [ByteArray.size_extract]; omega
theorem grown_drewN (w : World) (m : Nat) : w.grownBy (w.drewN m) none := ⟨rfl, rfl, rfl, Nat.le_refl _, fun _ _ _ => rfl⟩

/-- what a round keeps: the two variables that the iterator reads -/
def Kp (Bs Bc : Nat) (W W' : World) : Prop := W'.heap[Bs]? = W.heap[Bs]? ∧ W'.heap[Bc]? = W.heap[Bc]?
theorem Kp.trans {Bs Bc : Nat} {A B C : World} (h : Kp Bs Bc A B) (k : Kp Bs Bc B C) : Kp Bs Bc A C := ⟨k.1.trans h.1, k.2.trans h.2⟩
theorem Kp.put {Bs Bc : Nat} {w : World} (hs : Bs < w.heap.size) (hc : Bc < w.heap.size) (W : World) (l : Nat) (o o' : Obj) (hl : w.heap.size ≤ l) (h : W.heap[l]? = some o) (_ : o.isCells = false) (_ : o.isWalk = false) : Kp Bs Bc W (W.putObj l o') := by
  have hlt := (Array.getElem?_eq_some_iff.1 h).1
  have hg := grownBy_putObj' W l o'
  exact ⟨hg.block Bs (by omega) (by intro e; injection e; omega), hg.block Bc (by omega) (by intro e; injection e; omega)⟩
theorem Kp.cell_s {Bs Bc : Nat} {W W' : World} (h : Kp Bs Bc W W') : W'.cell? ⟨Bs, 0, none⟩ = W.cell? ⟨Bs, 0, none⟩ := World.cell?_of_block (a := ⟨Bs, 0, none⟩) h.1
theorem Kp.cell_c {Bs Bc : Nat} {W W' : World} (h : Kp Bs Bc W W') : W'.cell? ⟨Bc, 0, none⟩ = W.cell? ⟨Bc, 0, none⟩ := World.cell?_of_block (a := ⟨Bc, 0, none⟩) h.2

/-- what holds at the head of the outer loop -/
def Out (s : ByteArray) (c : UInt8) (J : List ByteArray → World → Prop) (Bs Bc : Nat) (g st : Nat) (pre : List ByteArray) (wr : World) : Prop :=
  st ≤ s.size ∧ g = s.size + 1 - st ∧ pcs c s.data.toList = pre ++ pcs c (s.data.toList.drop st) ∧ J pre wr ∧ wr.cell? ⟨Bs, 0, none⟩ = some (.string s) ∧ wr.cell? ⟨Bc, 0, none⟩ = some (.int .u8 c.toNat)

set_option maxRecDepth 100000 in
set_option maxHeartbeats 1000000 in
theorem iter_in (n : Nat) (hn : 1 ≤ n) (l Bs Bc : Nat) (s : ByteArray) (c : UInt8) (hs : s.size ≤ 4000) (J Jx : List ByteArray → World → Prop)
    (hY : ∀ pre (x : ByteArray) W, x.size ≤ 4000 → J pre W → pre.length < (pcs c s.data.toList).length → YieldAt Fence.wide (n - 1) Tryz.prog l #[.string x] W fun e W' =>
      (e = .returned (.bool true) ∧ J (pre ++ [x]) W' ∧ Kp Bs Bc W W') ∨ (e = .returned (.bool false) ∧ Jx (pre ++ [x]) W'))
    (hJ : ∀ pre A m, J pre A → J pre (A.drewN m))
    (W : World) (hcs : W.cell? ⟨Bs, 0, none⟩ = some (.string s)) (hcc : W.cell? ⟨Bc, 0, none⟩ = some (.int .u8 c.toNat)) (h0 : J [] W) :
    CallsIn Fence.wide n Tryz.prog 67 #[.func (.yield l) #[] #[], .pointer (some ⟨Bs, 0, none⟩), .pointer (some ⟨Bc, 0, none⟩)] W fun e W' => (∃ v, e = .returned v) ∧
      ((∃ ys, ys = pcs c s.data.toList ∧ J ys W') ∨ (∃ pre, pre <+: pcs c s.data.toList ∧ Jx pre W')) := by
  refine callsIn_of_wp Tryz.func67 rfl trivial ?_ rfl
  simp only [Tryz.ntmps67, List.size_toArray, List.length_cons, List.length_nil, Nat.reduceAdd, Nat.reduceSub, Array.replicate_succ, Array.replicate_zero, List.push_toArray, List.append_toArray, List.nil_append, List.cons_append]
  gi_wp2
  refine wpIn_wide.2 (wp_scope_straight ((wpIn_wide (n := n)).1 ?_))
  gi_wp2
  refine wpIn_label ?_
  gi_wp2
  gi_loopg [4] (s.size + 1) (fun g v wr => ∃ (st : Nat) (pre : List ByteArray), v = .int .i64 st ∧ Hid (Out s c J Bs Bc g st pre wr))
  case atStart => exact ⟨0, [], rfl, by show Out _ _ _ _ _ _ _ _ _; exact ⟨Nat.zero_le _, rfl, by simp, h0, hcs, hcc⟩⟩
  case round =>
    obtain ⟨st, pre, rfl, HO⟩ := hrel
    have hst : st ≤ s.size := HO.out.1
    gi_wp2
    gi_loopg [4, 5] (s.size + 1 - st) (fun g v4 v w2 => ∃ (e m : Nat), v4 = .int .i64 st ∧ v = .int .i64 e ∧ st ≤ e ∧ e ≤ s.size ∧ w2 = wr.drewN m ∧ Hid (g = s.size + 1 - e ∧ c ∉ (s.data.toList.drop st).take (e - st)))
    case atStart => exact ⟨st, 0, rfl, rfl, Nat.le_refl _, hst, rfl, by show _ ∧ _; exact ⟨rfl, by simp⟩⟩
    case round =>
      obtain ⟨e, m, rfl, rfl, he1, he2, rfl, HE⟩ := hrel
      have c1 : wr.cell? ⟨Bs, 0, none⟩ = some (.string s) := HO.out.2.2.2.2.1
      have c2 : wr.cell? ⟨Bc, 0, none⟩ = some (.int .u8 c.toNat) := HO.out.2.2.2.2.2
      by_cases hlt : e < s.size
      · have hei : (e : Int) < (s.size : Int) := by omega
        have he0 : 0 ≤ (e : Int) := by omega
        have hsti : (st : Int) ≤ (e : Int) := by omega
        have hst0 : 0 ≤ (st : Int) := by omega
        have heis : (e : Int) ≤ (s.size : Int) := by omega
        by_cases hc : s[e] = c
        · have b1 : (s[e].toNat == c.toNat) = true := by rw [hc]; simp
          have b2 : ((s[e].toNat : Int) == (c.toNat : Int)) = true := by rw [hc]; simp
          have b3 : (s[e].toNat != c.toNat) = false := by rw [hc]; simp
          have b4 : ((s[e].toNat : Int) != (c.toNat : Int)) = false := by rw [hc]; simp
          have HP := Lib.hid (pcs_hit s c st e he1 hlt HE.out.2 hc)
          have hb := pcs_ne c (s.data.toList.drop (e + 1))
          have HL := Lib.hid (show pre.length < (pcs c s.data.toList).length by have h := HO.out.2.2.1; rw [h, HP.out, List.length_append, List.length_cons]; omega)
          clear hc hb
          gi_wp2
          refine wpIn_wide.2 ?_
          go_quiet (fail)
          obtain ⟨fn, tmps, assign, body, hy, hR⟩ := hY pre (s.extract st e) (wr.drewN (m + nq)) (ext_le s st e hs) (hJ pre wr _ HO.out.2.2.2.1) HL.out
          gi_wp2
          refine hR.mono ?_
          rintro er W3 (⟨rfl, hJ3, hk3⟩ | ⟨rfl, hJx3⟩)
          · clear hy
            have HO3 := Lib.hid (show Out s c J Bs Bc (s.size + 1 - (e + 1)) (e + 1) (pre ++ [s.extract st e]) W3 from
              ⟨by omega, rfl, by rw [HO.out.2.2.1, HP.out]; simp, hJ3, hk3.cell_s.trans HO.out.2.2.2.2.1, hk3.cell_c.trans HO.out.2.2.2.2.2⟩)
            clear hJ3 hk3
            gi_wp2
            gi_roundg (s.size + 1 - (e + 1))
            case rel => exact ⟨e + 1, _, by go_num, HO3⟩
            case measure => have := HO.out.2.1; omega
          · clear hy
            gi_wp2
            rw [Exit.noGoto_ret]
            refine bodyPost_ret (results_none rfl _ _ _) rfl ?_
            exact ⟨⟨_, rfl⟩, .inr ⟨pre ++ [s.extract st e], ⟨pcs c (s.data.toList.drop (e + 1)), by rw [HO.out.2.2.1, HP.out]; simp⟩, hJx3⟩⟩
        · have hne : s[e].toNat ≠ c.toNat := fun h => hc (UInt8.toNat_inj.1 h)
          have b1 : (s[e].toNat == c.toNat) = false := by simpa using hne
          have b2 : ((s[e].toNat : Int) == (c.toNat : Int)) = false := by simp; omega
          have b3 : (s[e].toNat != c.toNat) = true := by simpa using hne
          have b4 : ((s[e].toNat : Int) != (c.toNat : Int)) = true := by simp; omega
          have HN := Lib.hid (no_step s c st e he1 hlt HE.out.2 hc)
          clear hc hne
          gi_wp2
          refine wpIn_wide.2 ?_
          go_quiet (fail)
          gi_wp2
          gi_roundg (s.size + 1 - (e + 1))
          case rel => exact ⟨e + 1, _, rfl, by go_num, by omega, by omega, rfl, by show _ ∧ _; exact ⟨rfl, HN.out⟩⟩
          case measure => have := HE.out.1; omega
      · have hstn : (st : Int) ≤ (s.size : Int) := by omega
        have hst0 : 0 ≤ (st : Int) := by omega
        have HP := Lib.hid (pcs_last s c st (no_all s c st e (by omega) HE.out.2))
        have HL := Lib.hid (show pre.length < (pcs c s.data.toList).length by have h := HO.out.2.2.1; rw [h, HP.out, List.length_append, List.length_singleton]; omega)
        obtain ⟨fn, tmps, assign, body, hy, hR⟩ := hY pre (s.extract st s.size) (wr.drewN m) (ext_le s st s.size hs) (hJ pre wr _ HO.out.2.2.2.1) HL.out
        gi_wp2
        refine hR.mono ?_
        rintro er W3 (⟨rfl, hJ3, hk3⟩ | ⟨rfl, hJx3⟩)
        · clear hy
          gi_wp2
          rw [Exit.noGoto_ret]
          refine bodyPost_ret (results_none rfl _ _ _) rfl ?_
          exact ⟨⟨_, rfl⟩, .inl ⟨pre ++ [s.extract st s.size], by rw [HO.out.2.2.1, HP.out], hJ3⟩⟩
        · clear hy
          gi_wp2
          rw [Exit.noGoto_ret]
          refine bodyPost_ret (results_none rfl _ _ _) rfl ?_
          exact ⟨⟨_, rfl⟩, .inr ⟨pre ++ [s.extract st s.size], ⟨[], by rw [HO.out.2.2.1, HP.out]; simp⟩, hJx3⟩⟩
end Go.Proofs.YtnlljdepcldibaaGreatDoor.iterc
