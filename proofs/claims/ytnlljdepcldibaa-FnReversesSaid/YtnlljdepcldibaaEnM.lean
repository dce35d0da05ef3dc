/-
  Field books: entries that measure one leg, the first of them, whether they agree, merged and reversed books.
  Conditions: none but those that a theorem names.
-/
import Derived.Test.YtnlljdepcldibaaEnA
import Derived.Test.YtnlljdepcldibaaRowI
import Derived.Test.YtnlljdepcldibaaLgC0
import Derived.Test.YtnlljdepcldibaaLeast
namespace Go.Proofs.Ytnlljdepcldibaa.en
open Go.RowKit
open reads base ty inn lg rowi mst
set_option linter.unusedVariables false
set_option linter.unusedSimpArgs false

/-- two entries measure the same leg -/
def sameEn (a b : En) : Bool := (a.frm == b.frm && a.to_ == b.to_) || (a.frm == b.to_ && a.to_ == b.frm)
theorem same_iff {a b : En} : sameEn a b = true ↔ (a.frm = b.frm ∧ a.to_ = b.to_) ∨ (a.frm = b.to_ ∧ a.to_ = b.frm) := by simp [sameEn]
theorem same_refl (a : En) : sameEn a a = true := same_iff.2 (.inl ⟨rfl, rfl⟩)
theorem same_sum {a b : En} (h : a.frm + a.to_ = b.frm + b.to_) (k : a.frm * a.to_ = b.frm * b.to_) : sameEn a b = true := by
  rw [same_iff]
  have e : (a.frm - b.frm) * (a.to_ - b.frm) = 0 := by
    have hb : b.to_ = a.frm + a.to_ - b.frm := by omega
    rw [hb, Int.mul_sub, Int.mul_add] at k
    rw [Int.sub_mul, Int.mul_sub, Int.mul_sub]
    have hc := Int.mul_comm a.frm b.frm
    omega
  rcases Int.mul_eq_zero.1 e with h1 | h1
  · left; omega
  · right; omega
theorem same_parts {a b : En} (h : sameEn a b = true) : a.frm + a.to_ = b.frm + b.to_ ∧ a.frm * a.to_ = b.frm * b.to_ := by
  rcases same_iff.1 h with ⟨h1, h2⟩ | ⟨h1, h2⟩
  · rw [h1, h2]; exact ⟨rfl, rfl⟩
  · rw [h1, h2]; exact ⟨Int.add_comm _ _, Int.mul_comm _ _⟩
theorem same_no {a b : En} (h : sameEn a b = false) : ¬ (a.frm + a.to_ = b.frm + b.to_) ∨ ¬ (a.frm * a.to_ = b.frm * b.to_) := by
  by_cases h1 : a.frm + a.to_ = b.frm + b.to_
  · refine .inr fun h2 => ?_
    rw [same_sum h1 h2] at h; cases h
  · exact .inl h1
/-- the index of the first entry of a leg -/
def firstN : List En → En → Nat
  | [], _ => 0
  | u :: ts, x => if sameEn u x = true then 0 else firstN ts x + 1
theorem first_is : ∀ (ts : List En) (k : Nat) (x u : En), ts[k]? = some u → sameEn u x = true → (∀ (j : Nat) v, j < k → ts[j]? = some v → sameEn v x = false) → firstN ts x = k
  | [], k, x, u, h, _, _ => by simp at h
  | d :: ts, 0, x, u, h, hs, _ => by
    simp at h
    subst h
    unfold firstN; rw [if_pos hs]
  | d :: ts, k + 1, x, u, h, hs, hb => by
    have h0 := hb 0 d (by omega) rfl
    unfold firstN
    rw [if_neg (by rw [h0]; simp), first_is ts k x u (by simpa using h) hs (fun j v hj hv => hb (j + 1) v (by omega) (by simpa using hv))]
theorem first_ex : ∀ (ts : List En) (k : Nat) (x : En), ts[k]? = some x → firstN ts x ≤ k ∧ (∃ u, ts[firstN ts x]? = some u ∧ sameEn u x = true) ∧ ∀ (j : Nat) v, j < firstN ts x → ts[j]? = some v → sameEn v x = false
  | [], k, x, h => by simp at h
  | d :: ts, k, x, h => by
    by_cases hd : sameEn d x = true
    · have e : firstN (d :: ts) x = 0 := by unfold firstN; rw [if_pos hd]
      rw [e]
      exact ⟨Nat.zero_le _, ⟨d, rfl, hd⟩, fun j v hj => absurd hj (Nat.not_lt_zero _)⟩
    · have e : firstN (d :: ts) x = firstN ts x + 1 := by show (if sameEn d x = true then 0 else firstN ts x + 1) = _; rw [if_neg hd]
      cases k with
      | zero => simp at h; subst h; exact absurd (same_refl _) hd
      | succ k =>
        obtain ⟨a, ⟨u, b, c⟩, f⟩ := first_ex ts k x (by simpa using h)
        rw [e]
        refine ⟨by omega, ⟨u, by simpa using b, c⟩, fun j v hj hv => ?_⟩
        cases j with
        | zero => simp at hv; subst hv; simpa using hd
        | succ j => exact f j v (by omega) (by simpa using hv)
/-- the first entry of a leg -/
def fstEn (ts : List En) (x : En) : En := (ts[firstN ts x]?).getD x
theorem fst_at {ts : List En} {k : Nat} {x : En} (h : ts[k]? = some x) : ts[firstN ts x]? = some (fstEn ts x) ∧ sameEn (fstEn ts x) x = true := by
  obtain ⟨-, ⟨u, b, c⟩, -⟩ := first_ex ts k x h
  unfold fstEn
  rw [b]; exact ⟨rfl, c⟩
/-- two entries of one leg agree -/
def agEn (a b : En) : Bool := near (legEn a) (aim (legEn a) (legEn b)) 2 2
theorem legEn_frm (x : En) : (legEn x).frm = x.frm := by unfold legEn asLg; split <;> rfl
theorem legEn_to (x : En) : (legEn x).to_ = x.to_ := by unfold legEn asLg; split <;> rfl
theorem legEn_tape (x : En) : (legEn x).tape = x.tape := by unfold legEn asLg; split <;> rfl
/-- what DoAgree answers at two entries' legs -/
theorem agree_ans {a b : En} (ha : okEn a = true) (hb : okEn b = true) : ansAgree (legEn a) (legEn b) 2 2 = .tuple #[.bool (sameEn a b && agEn a b), .bool (sameEn a b)] := by
  have ka := legEn_ok ha
  have kb := legEn_ok hb
  obtain ⟨-, -, na, -, -, -⟩ := okEn_lim ha
  obtain ⟨-, -, nb, -, -, -⟩ := okEn_lim hb
  have hok : agOk (legEn a) (legEn b) 2 2 = true := by unfold agOk; rw [ka, kb]; rfl
  by_cases hs : sameEn a b = true
  · have hm : (legEn a).frm = (aim (legEn a) (legEn b)).frm ∧ (legEn a).to_ = (aim (legEn a) (legEn b)).to_ := by
      unfold aim
      simp only [legEn_frm, legEn_to]
      split
      · rename_i h; simp only [revLg, legEn_frm, legEn_to]; exact h
      · rename_i h; rw [legEn_frm, legEn_to]
        rcases same_iff.1 hs with h1 | h1
        · exact h1
        · exact absurd h1 h
    unfold ansAgree
    rw [if_pos ⟨hok, hm⟩, hs]
    rfl
  · have hm : ¬ ((legEn a).frm = (aim (legEn a) (legEn b)).frm ∧ (legEn a).to_ = (aim (legEn a) (legEn b)).to_) := by
      unfold aim
      simp only [legEn_frm, legEn_to]
      split
      · rename_i h; exact absurd (same_iff.2 (.inr h)) hs
      · rw [legEn_frm, legEn_to]; exact fun h => hs (same_iff.2 (.inl h))
    unfold ansAgree
    rw [if_neg (fun k => hm k.2), show sameEn a b = false by simpa using hs]
    rfl
/-- the leg, leading from a station -/
def turnEn (x : En) (q : Int) : Lg := if (legEn x).frm = q then legEn x else revLg (legEn x)
theorem turn_aim {a b : En} (hs : sameEn a b = true) (hb : okEn b = true) : turnEn b a.frm = aim (legEn a) (legEn b) := by
  obtain ⟨-, -, nb, -, -, -⟩ := okEn_lim hb
  unfold turnEn aim
  rw [legEn_frm, legEn_frm, legEn_to, legEn_to]
  by_cases h : b.frm = a.frm
  · rw [if_pos h, if_neg (fun k => nb (by omega))]
  · rw [if_neg h]
    rcases same_iff.1 hs with h1 | h1
    · exact absurd h1.1.symm h
    · rw [if_pos h1]
theorem turn_self (a : En) : turnEn a a.frm = legEn a := by unfold turnEn; rw [if_pos (legEn_frm a)]
/-- the distance of two numbers -/
def apart (a b : Int) : Int := mx (a - b) (b - a)
theorem apart_bd {a b m : Int} (a0 : -m ≤ a) (a1 : a ≤ m) (b0 : -m ≤ b) (b1 : b ≤ m) : 0 ≤ apart a b ∧ apart a b ≤ m + m := by
  have h := mx_abs a b
  unfold apart
  omega
/-- the model's test -/
def offEn (x y : Lg) : Bool := decide (2 < apart x.tape y.tape) || decide (2 < lst.mn (apart x.comp y.comp) (360 - apart x.comp y.comp)) || decide (2 < apart x.slope y.slope)
theorem turn_apart {a b : Int} (a0 : 0 ≤ a ∧ a ≤ 359) (b0 : 0 ≤ b ∧ b ≤ 359) : tn.turn a b = lst.mn (apart a b) (360 - apart a b) := by
  unfold tn.turn lst.mn apart mx
  split <;> split <;> split <;> omega
theorem off_near {x y : Lg} (hx : okLg x = true) (hy : okLg y = true) : offEn x y = !near x y 2 2 := by
  obtain ⟨-, -, -, -, c, -⟩ := okLg_lim hx
  obtain ⟨-, -, -, -, d, -⟩ := okLg_lim hy
  unfold offEn near
  rw [turn_apart c d]
  show _ = !(decide (_ ≤ (2 : Int)) && decide (apart x.slope y.slope ≤ 2) && decide (apart x.tape y.tape ≤ 2))
  generalize apart x.tape y.tape = p
  generalize lst.mn (apart x.comp y.comp) (360 - apart x.comp y.comp) = q
  generalize apart x.slope y.slope = r
  rw [Bool.eq_iff_iff]
  simp
  omega
theorem off_ag {a b : En} (hs : sameEn a b = true) (ha : okEn a = true) (hb : okEn b = true) : offEn (turnEn a a.frm) (turnEn b a.frm) = !agEn a b := by
  rw [turn_self, turn_aim hs hb, off_near (legEn_ok ha) (aim_ok (legEn_ok hb))]
  rfl
/-- the entries that disagree with the first one of their leg -/
def erP (ts : List En) (x : En) : Bool := !agEn (fstEn ts x) x
def erIds (ts : List En) : List Int := if goodEn ts = true then idxs (erP ts) ts ts.length else []
theorem erIds_len (ts : List En) : (erIds ts).length ≤ ts.length := by
  unfold erIds
  split
  · exact idxs_len _ _ _
  · simp
/-- the entries that are the first of their leg, of the first k -/
def mgN (ts : List En) : Nat → List En
  | 0 => []
  | k + 1 => match ts[k]? with
    | some t => if firstN ts t = k then mgN ts k ++ [t] else mgN ts k
    | none => mgN ts k
theorem mg_yes {ts : List En} {k : Nat} {t : En} (h : ts[k]? = some t) (hp : firstN ts t = k) : mgN ts (k + 1) = mgN ts k ++ [t] := by
  show (match ts[k]? with | some t => _ | none => _) = _
  rw [h]; exact if_pos hp
theorem mg_no {ts : List En} {k : Nat} {t : En} (h : ts[k]? = some t) (hp : ¬ firstN ts t = k) : mgN ts (k + 1) = mgN ts k := by
  show (match ts[k]? with | some t => _ | none => _) = _
  rw [h]; exact if_neg hp
theorem mg_len (ts : List En) : ∀ k, (mgN ts k).length ≤ k
  | 0 => by simp [mgN]
  | k + 1 => by
    have := mg_len ts k
    unfold mgN
    split
    · split
      · rw [List.length_append]; simp; omega
      · omega
    · omega
def mgEn (ts : List En) : List En := if goodEn ts = true then mgN ts ts.length else []
theorem mgEn_len (ts : List En) : (mgEn ts).length ≤ ts.length := by
  unfold mgEn
  split
  · exact mg_len _ _
  · simp
/-- an entry, the other way round -/
def swEn (x : En) : En := ⟨x.to_, x.frm, x.tape, x.comp, x.slope, !x.back⟩
def rvEn (ts : List En) : List En := if goodEn ts = true then ts.reverse.map swEn else []
theorem rvEn_len (ts : List En) : (rvEn ts).length ≤ ts.length := by
  unfold rvEn
  split <;> simp
theorem rv_next {ts : List En} {k : Nat} {t : En} (h : ts[ts.length - 1 - k]? = some t) (hk : k < ts.length) : (ts.reverse.take (k + 1)).map swEn = (ts.reverse.take k).map swEn ++ [swEn t] := by
  have e : ts.reverse[k]? = some t := by rw [List.getElem?_reverse hk]; exact h
  rw [take_snoc e, List.map_append]; rfl
theorem rv_all (ts : List En) : (ts.reverse.take ts.length).map swEn = ts.reverse.map swEn := by rw [List.take_of_length_le (by simp)]
/-- entries that the call has made, and a word -/
def EPost (xs : List En) (t : Bool) (w : World) (e : Ending) (w' : World) : Prop :=
  ∃ v, e = .returned (.tuple #[v, .bool t]) ∧ w'.ownsRow w.heap.size 25 6 v xs.length (flatEn xs) ∧ Below w.heap.size w w'
end Go.Proofs.Ytnlljdepcldibaa.en
