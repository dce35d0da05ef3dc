/-
  Rows of passages written in place: copied into, appended to where there is room, put in the middle.
  Conditions: the passages lie in one block, at most 2000000 of them.
-/
import Derived.Test.YtnpghhpcloljeaaPwW
import Derived.BigQuiet
import Derived.Deep.QuietTactic
import Derived.Deep.Cut
import Derived.Deep.DeepCutAuto
import Derived.RegionTactic
import Derived.Deep.RegionWith
import Derived.OwnWalk
import Derived.Deep.RegionHeld3
import Derived.Laws.CopyRow
import Derived.Laws.IdiomCopy
import Derived.Lib.JoinLaws
namespace Go.Proofs.Ytnpghhpcloljeaa.pw
open Go.RowKit
open reads base ty rowi win lg
set_option linter.unusedVariables false
set_option linter.unusedSimpArgs false

/-- a part of a row written over -/
def putL (l : List Value) (o : Nat) (vs : List Value) : List Value := l.take o ++ vs ++ l.drop (o + vs.length)
theorem putL_len {l vs : List Value} {o : Nat} (h : o + vs.length ≤ l.length) : (putL l o vs).length = l.length := by
  unfold putL; rw [List.length_append, List.length_append, List.length_take, List.length_drop]; omega
theorem blk_setCells {g : Nat} {t : TypeId} : ∀ (vs : List Value) (o : Nat) (w : World) (l : List Value), Blk w g t l.toArray → o + vs.length ≤ l.length → Blk (w.setCells g o vs) g t (putL l o vs).toArray
  | [], o, w, l, h, _ => by simpa [World.setCells, putL] using h
  | v :: r, o, w, l, h, hl => by
    have h1 := h.set_ o v
    rw [List.setIfInBounds_toArray] at h1
    have ih := blk_setCells r (o + 1) _ (l.set o v) h1 (by simp at hl ⊢; omega)
    have e := list_seg_step l o v r (by simpa using hl)
    unfold putL at ih ⊢
    rw [e] at ih
    exact ih
theorem grown_setCells {w : World} {g : Nat} : ∀ (vs : List Value) (o : Nat) (v : World), w.grownBy v (some g) → w.grownBy (v.setCells g o vs) (some g)
  | [], _, _, h => h
  | u :: r, o, v, h => grown_setCells r (o + 1) _ (grown_set h o u)
theorem grown_setRow {w v : World} {g : Nat} (h : w.grownBy v (some g)) (cs : Array Value) : w.grownBy (v.setRow g cs) (some g) :=
  ⟨h.os, h.tape, h.output, by rw [size_setRow]; exact h.size, fun i hi hne => (setRow_other v g i cs (by rintro rfl; exact hne rfl)).trans (h.block i hi hne)⟩
theorem blk_setRow {w : World} {g : Nat} {t : TypeId} {old : Array Value} (h : Blk w g t old) (cs : Array Value) : Blk (w.setRow g cs) g t cs := setRow_heap w g old cs t (0, 0) h
/-- a copy into a row -/
theorem run_copy_rowN {P : Program} (w : World) (dT sT ty elem : TypeId) (g o dLen dCap : Nat) (a : Addr) (sLen sCap m sz : Nat) (l cs : List Value) (t : TypeId)
    (hu : P.underlying dT = some (.slice elem)) (hs : (P.info? elem).map (·.size) = some sz)
    (hg : Blk w g t l.toArray) (hm : Nat.min sLen dLen = m) (hn : cs.length = m * sz)
    (hsrc : ∀ j v, cs[j]? = some v → w.cell? (a.add j) = some v) (hfit : o + cs.length ≤ l.length) (h1 : ∀ v ∈ cs, v.oneCell' = true) :
    (Builtin.copy_ #[dT, sT] ty #[.slice (some ⟨g, o, none⟩) dLen dCap, .slice (some a) sLen sCap]).run P w = .ok (goInt m) (w.setRow g (putL l o cs).toArray) := by
  have hl := run_loadCells_list (P := P) w a cs hsrc
  have hst := run_storeCells_at P g o t cs 0 l.toArray w hg (by simpa using hfit) h1
  cases hq : P.info? elem with
  | none => simp [hq] at hs
  | some i =>
    have hi : i.size = sz := by simpa [hq] using hs
    simp [Builtin.copy_, run_underlying hu, Builtin.lenOf, Builtin.firstCells, sizeOf, typeInfo, hq, hi, hm, ← hn, hl, hst, putL]
theorem wp_copy_runI (w : World) {P : Program} {o : Oper} {a : Act} {K : Act → World → Prop} {Q : Exit → Act → World → Prop} (d s : Operand) (t t' : TypeId)
    (ho : o.op = .call { callee := .builtin .copy, args := #[d, s], argTypes := #[t, t'] }) (v u : Value) (hd : a.eval d = v) (hs : a.eval s = u) {v' : Value} {w' : World}
    (hr : (Builtin.copy_ #[t, t'] o.type #[v, u]).run P w = .ok v' w') (h : K (a.put o.dst v') w') : o.wp P a w K Q := by
  unfold Oper.wp execOp
  simp only [ho, resolve, invoke, builtin, Sem.run_bind, Sem.run_pure, Result.andThen_ok, List.map_toArray, List.map_cons, List.map_nil, hd, hs, hr]
  exact h
theorem wpList_copy_runI (w : World) {P : Program} {ops : Array Oper} {rest : List Oper} {o : Oper} {a : Act} {Q : Exit → Act → World → Prop} (hgd : o.guard = none) (d s : Operand) (t t' : TypeId)
    (ho : o.op = .call { callee := .builtin .copy, args := #[d, s], argTypes := #[t, t'] }) (v u : Value) (hd : a.eval d = v) (hs : a.eval s = u) {v' : Value} {w' : World}
    (hr : (Builtin.copy_ #[t, t'] o.type #[v, u]).run P w = .ok v' w') (h : wpList P ops Q rest (a.put o.dst v') w') : wpList P ops Q (o :: rest) a w :=
  wpList_plain hgd fun _ hK => wp_copy_runI w d s t t' ho v u hd hs hr (hK _ _ h)
theorem step_copy_runI {P : Program} {ops : Array Oper} {o : Oper} {a : Act} {w : World} {K : Act → World → Prop} {Q : Exit → Act → World → Prop} {E : Prop}
    (hg : o.guard = none) (d x : Operand) (dT sT : TypeId) (hop : o.op = Op.call { callee := Callee.builtin Builtin.copy, args := #[d, x], argTypes := #[dT, sT] })
    (v u : Value) (hd : a.eval d = v) (hx : a.eval x = u) {v' : Value} {w' : World} (hr : (Builtin.copy_ #[dT, sT] o.type #[v, u]).run P w = .ok v' w') (hK : K (a.put o.dst v') w') :
    if Region.wanted o (yielded ops a.tmps) = true then Oper.wp P o a w K Q else E := by
  have hw : Region.wanted o (yielded ops a.tmps) = true := by simp [Region.wanted, hg]
  rw [if_pos hw]
  exact wp_copy_runI w d x dT sT hop v u hd hx hr hK
theorem flatPg_take_drop (ms : List Pg) (i : Nat) : flatPg (ms.take i) ++ flatPg (ms.drop i) = flatPg ms := by rw [← flatPg_append, List.take_append_drop]
theorem drop_past {α : Type} (a b : List α) (n : Nat) (h : a.length ≤ n) : (a ++ b).drop n = b.drop (n - a.length) := by
  rw [List.drop_append, List.drop_of_length_le h, List.nil_append]
theorem take_past {α : Type} (a b : List α) (n : Nat) (h : a.length ≤ n) : (a ++ b).take n = a ++ b.take (n - a.length) := by
  rw [List.take_append, List.take_of_length_le h]
theorem put_end (A R X : List Value) : putL (A ++ R) A.length X = A ++ X ++ R.drop X.length := by
  unfold putL
  rw [take_past A R _ (Nat.le_refl _), Nat.sub_self, List.take_zero, List.append_nil, drop_past A R _ (by omega), Nat.add_sub_cancel_left]
theorem put_mid (A B R X : List Value) (h : X.length ≤ R.length) : putL (putL (A ++ (B ++ R)) (A.length + X.length) B) A.length X = A ++ X ++ (B ++ R.drop X.length) := by
  obtain ⟨U, hU⟩ : ∃ U, (B ++ R).take X.length = U := ⟨_, rfl⟩
  have hl : U.length = X.length := by rw [← hU, List.length_take, List.length_append]; omega
  have e1 : putL (A ++ (B ++ R)) (A.length + X.length) B = A ++ (U ++ (B ++ R.drop X.length)) := by
    unfold putL
    rw [take_past A _ _ (by omega), Nat.add_sub_cancel_left, hU, drop_past A _ _ (by omega), drop_past B _ _ (by omega), show A.length + X.length + B.length - A.length - B.length = X.length by omega]
    simp only [List.append_assoc]
  rw [e1]
  unfold putL
  rw [take_past A _ _ (Nat.le_refl _), Nat.sub_self, List.take_zero, List.append_nil, drop_past A _ _ (by omega), Nat.add_sub_cancel_left, drop_past U _ _ (by omega), hl, Nat.sub_self, List.drop_zero]
theorem row_app (ms : List Pg) (rest : List Value) (x : Pg) : putL (flatPg ms ++ rest) (ms.length * 5) (flatPg [x]) = flatPg (ms ++ [x]) ++ rest.drop 5 := by
  rw [← flatPg_len, put_end, flatPg_append]; rfl
theorem flatPg_cons (x : Pg) (ms : List Pg) : flatPg (x :: ms) = flatPg [x] ++ flatPg ms := flatPg_append [x] ms
theorem row_ins (ms : List Pg) (rest : List Value) (x : Pg) (i : Nat) (hi : i ≤ ms.length) (hr : 5 ≤ rest.length) :
    putL (putL (flatPg ms ++ rest) ((i + 1) * 5) (flatPg (ms.drop i))) (i * 5) (flatPg [x]) = flatPg (insPg ms i x) ++ rest.drop 5 := by
  have e : (flatPg (ms.take i)).length = i * 5 := by rw [flatPg_len, List.length_take]; congr 1; omega
  have e5 : (flatPg [x]).length = 5 := rfl
  have k := put_mid (flatPg (ms.take i)) (flatPg (ms.drop i)) rest (flatPg [x]) (by rw [e5]; exact hr)
  rw [e, e5, ← List.append_assoc, flatPg_take_drop, show i * 5 + 5 = (i + 1) * 5 by omega] at k
  rw [k]
  unfold insPg
  rw [flatPg_append, flatPg_cons x (ms.drop i)]
  simp only [List.append_assoc]
theorem flatPg_set (t : Pg) : ∀ (ts : List Pg) (i : Nat), i < ts.length → ((((((flatPg ts).set (i * 5) (.int .i64 t.st)).set (i * 5 + 1) (.int .i64 t.lf)).set (i * 5 + 2) (.int .i64 t.rt)).set (i * 5 + 3) (.int .i64 t.ab)).set (i * 5 + 4) (.int .i64 t.be)) = flatPg (ts.set i t)
  | [], i, h => by simp at h
  | d :: ts, 0, h => by simp [flatPg]
  | d :: ts, i + 1, h => by
    have ih := flatPg_set t ts i (by simpa using h)
    have e : flatPg (d :: ts) = .int .i64 d.st :: .int .i64 d.lf :: .int .i64 d.rt :: .int .i64 d.ab :: .int .i64 d.be :: flatPg ts := rfl
    have e2 : flatPg ((d :: ts).set (i + 1) t) = .int .i64 d.st :: .int .i64 d.lf :: .int .i64 d.rt :: .int .i64 d.ab :: .int .i64 d.be :: flatPg (ts.set i t) := rfl
    rw [e2, ← ih, e, show (i + 1) * 5 = i * 5 + 1 + 1 + 1 + 1 + 1 by omega, show i * 5 + 1 + 1 + 1 + 1 + 1 + 1 = (i * 5 + 1) + 1 + 1 + 1 + 1 + 1 by omega, show i * 5 + 1 + 1 + 1 + 1 + 1 + 2 = (i * 5 + 2) + 1 + 1 + 1 + 1 + 1 by omega, show i * 5 + 1 + 1 + 1 + 1 + 1 + 3 = (i * 5 + 3) + 1 + 1 + 1 + 1 + 1 by omega, show i * 5 + 1 + 1 + 1 + 1 + 1 + 4 = (i * 5 + 4) + 1 + 1 + 1 + 1 + 1 by omega]
    simp only [List.set_cons_succ]
theorem row_set (t : Pg) (ts : List Pg) (rest : List Value) (i : Nat) (h : i < ts.length) : ((((((flatPg ts ++ rest).set (i * 5) (.int .i64 t.st)).set (i * 5 + 1) (.int .i64 t.lf)).set (i * 5 + 2) (.int .i64 t.rt)).set (i * 5 + 3) (.int .i64 t.ab)).set (i * 5 + 4) (.int .i64 t.be)) = flatPg (ts.set i t) ++ rest := by
  have e : (flatPg ts).length = ts.length * 5 := flatPg_len ts
  rw [List.set_append_left _ _ (by omega), List.set_append_left _ _ (by simp; omega), List.set_append_left _ _ (by simp; omega), List.set_append_left _ _ (by simp; omega), List.set_append_left _ _ (by simp; omega), flatPg_set t ts i h]
/-- passages of one's own, with room behind them: the row's block, its room, the list; and nothing old has turned -/
def RM (w : World) (M C : Nat) (ms : List Pg) (v : World) : Prop := Below w.heap.size w v ∧ w.heap.size ≤ M ∧ ms.length ≤ C ∧ C ≤ 100 ∧ ∃ rest, rest.length = (C - ms.length) * 5 ∧ Blk v M 53 (flatPg ms ++ rest).toArray
theorem RM.step {w v v' : World} {M C : Nat} {ms : List Pg} (h : RM w M C ms v) (hb : Below v.heap.size v v') : RM w M C ms v' := by
  obtain ⟨a, b, c, c1, rest, d, e⟩ := h
  exact ⟨a.trans (hb.mono a.size), b, c, c1, rest, d, e.below hb e.lt⟩
theorem RM.own {w v : World} {M C : Nat} {ms : List Pg} (h : RM w M C ms v) : v.ownsRow w.heap.size 53 5 (.slice (some ⟨M, 0, none⟩) ms.length C) ms.length (flatPg ms) := by
  obtain ⟨a, b, c, c1, rest, d, e⟩ := h
  refine ⟨flatPg_len ms, .inr ⟨M, C, _, rfl, b, e, c, by unfold maxLen; omega, ?_, ?_⟩⟩
  · simp; rw [flatPg_len, d]; omega
  · show List.take (ms.length * 5) (flatPg ms ++ rest) = _
    rw [← flatPg_len, take_past _ _ _ (Nat.le_refl _), Nat.sub_self, List.take_zero, List.append_nil]
theorem RM.at_ {w v : World} {M C : Nat} {ms : List Pg} (h : RM w M C ms v) : PgAt v v.heap.size (some ⟨M, 0, none⟩) ms.length ms := own_Pg rfl h.own
theorem RM.lt {w v : World} {M C : Nat} {ms : List Pg} (h : RM w M C ms v) : M < v.heap.size := by
  obtain ⟨a, b, c, c1, rest, d, e⟩ := h
  exact e.lt
/-- an append of one passage where there is room for it -/
theorem wpList_app_room {ops : Array Oper} {rest : List Oper} {o : Oper} {a : Act} {K : Exit → Act → World → Prop} {w u : World} {M C Q L cx : Nat} {ms : List Pg} {x : Pg} (hgd : o.guard = none) (s xo : Operand)
    (ho : o.op = Op.call { callee := Callee.builtin Builtin.append, args := #[s, xo], argTypes := #[25, 25] }) (hs : a.eval s = .slice (some ⟨M, 0, none⟩) L C) (hx : a.eval xo = .slice (some ⟨Q, 0, none⟩) 1 cx)
    (hL : ms.length = L) (hC : L + 1 ≤ C) (h : RM w M C ms u) (hq : Blk u Q 53 (flatPg [x]).toArray)
    (hK : ∀ u', RM w M C (ms ++ [x]) u' → wpList Try.prog ops K rest (a.put o.dst (.slice (some ⟨M, 0, none⟩) (L + 1) C)) u') : wpList Try.prog ops K (o :: rest) a u := by
  obtain ⟨i0, hi, hz0, hz1, hz2⟩ := info_parts infoPg
  obtain ⟨hb, hM, hc, hc1, rs, hr, hB⟩ := h
  rw [hL] at hr hc
  have hfl : (flatPg ms ++ rs).length = C * 5 := by rw [List.length_append, flatPg_len, hL, hr]; omega
  refine wpList_append_room_src u hgd s xo _ _ ho 53 i0 Try.underlying25 hi M 0 L C hs _ hx 1 (flatPg [x]) ?_ hC ?_ ?_ ?_
  · rw [hz1]
    exact Src.ofSlice u Try.underlying25 ⟨Q, 0, none⟩ 1 cx (flatPg [x]) rfl (World.news_of_block hq) (flatPg_one [x])
  · intro j hj
    have hj5 : j < 5 := hj
    rw [hz1, hB.cell, List.getElem?_toArray, List.getElem?_eq_getElem (by omega)]; rfl
  · intro j hj; exact hB.frozen _
  · rw [hz1, Nat.zero_add]
    refine hK _ ⟨?_, hM, by rw [List.length_append, hL]; exact hC, hc1, rs.drop 5, ?_, ?_⟩
    · have k := grown_setCells (flatPg [x]) (L * 5) u (World.grownBy.refl u (some M))
      exact hb.grown k hb.size (fun g e => by injection e with e; omega)
    · rw [List.length_drop, hr, List.length_append, hL]; simp; omega
    · have k := blk_setCells (flatPg [x]) (L * 5) u (flatPg ms ++ rs) hB (by rw [hfl]; show L * 5 + 5 ≤ _; omega)
      rw [← hL, row_app] at k
      rw [← hL]
      exact k
theorem RM.put {w v : World} {M C p : Nat} {ms : List Pg} (h : RM w M C ms v) (hp : p < ms.length) (t : Pg) : RM w M C (ms.set p t) (((((v.setCell ⟨M, p * 5, none⟩ (.int .i64 t.st)).setCell ⟨M, p * 5 + 1, none⟩ (.int .i64 t.lf)).setCell ⟨M, p * 5 + 2, none⟩ (.int .i64 t.rt)).setCell ⟨M, p * 5 + 3, none⟩ (.int .i64 t.ab)).setCell ⟨M, p * 5 + 4, none⟩ (.int .i64 t.be)) := by
  obtain ⟨a, b, c, c1, rest, d, e⟩ := h
  refine ⟨((((a.setCell (p := (⟨M, p * 5, none⟩ : Addr)) b _).setCell (p := (⟨M, p * 5 + 1, none⟩ : Addr)) b _).setCell (p := (⟨M, p * 5 + 2, none⟩ : Addr)) b _).setCell (p := (⟨M, p * 5 + 3, none⟩ : Addr)) b _).setCell (p := (⟨M, p * 5 + 4, none⟩ : Addr)) b _, b, by rw [List.length_set]; exact c, c1, rest, by rw [List.length_set]; exact d, ?_⟩
  have k := ((((e.set_ (p * 5) (.int .i64 t.st)).set_ (p * 5 + 1) (.int .i64 t.lf)).set_ (p * 5 + 2) (.int .i64 t.rt)).set_ (p * 5 + 3) (.int .i64 t.ab)).set_ (p * 5 + 4) (.int .i64 t.be)
  simp only [List.setIfInBounds_toArray] at k
  rw [row_set t ms rest p hp] at k
  exact k
theorem RM.fro {w v : World} {M C : Nat} {ms : List Pg} (h : RM w M C ms v) (o : Nat) : v.frozen? ⟨M, o, none⟩ = false := by
  obtain ⟨a, b, c, c1, rest, d, e⟩ := h
  exact e.frozen o
/-- nothing goes over where nothing is -/
theorem run_copy_zero {P : Program} (w : World) (dT sT ty elem : TypeId) (d : Addr) (dLen dCap : Nat) (A : Option Addr) (cap : Nat) (hu : P.underlying dT = some (.slice elem)) (hs : ((P.info? elem).map (·.size)).isSome = true) :
    (Builtin.copy_ #[dT, sT] ty #[.slice (some d) dLen dCap, .slice A 0 cap]).run P w = .ok (goInt 0) w := by
  cases hq : P.info? elem with
  | none => simp [hq] at hs
  | some i =>
    cases A with
    | none => simp [Builtin.copy_, run_underlying hu, Builtin.lenOf, Builtin.firstCells, sizeOf, typeInfo, hq, storeCells]
    | some a =>
      have hl := run_loadCells_list (P := P) w a [] (fun j v h => by simp at h)
      simp at hl
      simp [Builtin.copy_, run_underlying hu, Builtin.lenOf, Builtin.firstCells, sizeOf, typeInfo, hq, storeCells, hl]
/-- a list copied into a row that was just made -/
theorem copy_made {w u : World} {M n1 C : Nat} {l0 : List Value} {as1 : List Pg} {A1 : Option Addr} {cap1 : Nat} (hl : as1.length = n1) (hb : Below w.heap.size w u) (hM : w.heap.size ≤ M) (hC : n1 ≤ C) (hC1 : C ≤ 100) (hB : Blk u M 53 l0.toArray) (hl0 : l0.length = C * 5) (ha : PgAt u w.heap.size A1 n1 as1) :
    ∃ u', RM w M C as1 u' ∧ ∀ ty, (Builtin.copy_ #[25, 25] ty #[.slice (some ⟨M, 0, none⟩) n1 C, .slice A1 n1 cap1]).run Try.prog u = .ok (goInt (n1 : Nat)) u' := by
  have hsz : (Try.prog.info? 53).map (·.size) = some 5 := by kernel_rfl
  by_cases h0 : n1 = 0
  · subst h0
    obtain rfl : as1 = [] := List.length_eq_zero_iff.1 hl
    exact ⟨u, ⟨hb, hM, Nat.zero_le _, hC1, l0, by simpa using hl0, by simpa [flatPg] using hB⟩, fun ty => run_copy_zero u _ _ ty 53 _ _ _ _ _ Try.underlying25 (by rw [hsz]; rfl)⟩
  · obtain ⟨x, hx⟩ := at_lt hl (show 0 < n1 by omega)
    obtain ⟨g, rfl, hg, -⟩ := ha.2 0 x hx
    refine ⟨u.setRow M (putL l0 0 (flatPg as1)).toArray, ?_, fun ty => run_copy_rowN u _ _ ty 53 M 0 n1 C ⟨g, 0, none⟩ n1 cap1 n1 5 l0 (flatPg as1) 53 Try.underlying25 hsz hB (Nat.min_self n1) (by rw [flatPg_len, hl]) (fun j v hj => ?_) (by rw [flatPg_len, hl, hl0]; omega) (flatPg_one _)⟩
    · refine ⟨hb.grown (grown_setRow (World.grownBy.refl u (some M)) _) hb.size (fun g e => by injection e with e; omega), hM, by rw [hl]; exact hC, hC1, l0.drop (n1 * 5), by rw [List.length_drop, hl0, hl]; omega, ?_⟩
      have k := blk_setRow hB (putL l0 0 (flatPg as1)).toArray
      have e : putL l0 0 (flatPg as1) = flatPg as1 ++ l0.drop (n1 * 5) := by unfold putL; rw [List.take_zero, List.nil_append, Nat.zero_add, flatPg_len, hl]
      rw [e] at k ⊢
      exact k
    · have e : (⟨g, 0, none⟩ : Addr).add j = ⟨g, j, none⟩ := by unfold Addr.add; by_cases hj0 : j = 0 <;> simp [hj0]
      have hjl := lt_at hj
      rw [flatPg_len, hl] at hjl
      obtain ⟨t, ht⟩ := at_lt hl (show j / 5 < n1 by omega)
      obtain ⟨f0, f1, f2, f3, f4⟩ := flatPg_at as1 (j / 5) t ht
      obtain ⟨g', e', -, c0, c1, c2, c3, c4⟩ := ha.2 (j / 5) t ht
      have hgg : g' = g := (congrArg Addr.block (Option.some.inj e')).symm
      subst hgg
      rw [e]
      have hr : j % 5 = 0 ∨ j % 5 = 1 ∨ j % 5 = 2 ∨ j % 5 = 3 ∨ j % 5 = 4 := by omega
      rcases hr with r | r | r | r | r
      · rw [show j / 5 * 5 = j by omega] at f0 c0; rw [c0, ← f0, hj]
      · rw [show j / 5 * 5 + 1 = j by omega] at f1 c1; rw [c1, ← f1, hj]
      · rw [show j / 5 * 5 + 2 = j by omega] at f2 c2; rw [c2, ← f2, hj]
      · rw [show j / 5 * 5 + 3 = j by omega] at f3 c3; rw [c3, ← f3, hj]
      · rw [show j / 5 * 5 + 4 = j by omega] at f4 c4; rw [c4, ← f4, hj]
end Go.Proofs.Ytnpghhpcloljeaa.pw
