/-
  The network of any legs, by the program.
  Conditions: the legs lie in one block, at most 2000000 of them; the variable holds the table of the sines.
-/
import Derived.Test.YtgfopehceojahaaDoorNqF
namespace Go.Proofs.YtgfopehceojahaaDoor.nq
open Go.RowKit
open reads base ty lg lgi win hs nt rowi sn
set_option linter.unusedVariables false
set_option linter.unusedSimpArgs false

def netS (ts : List Lg) : Net := if goodLg ts then net ts else none6
def clS (ts : List Lg) : List Bool := if goodLg ts then clM ts (net ts) ts.length else off12
theorem nok_S (ts : List Lg) : NOk (netS ts) (clS ts) := by
  unfold netS clS
  cases h : goodLg ts
  · exact ok_none
  · exact ⟨(ok_net h).1, clM_len _ _ _⟩
theorem net_any (A : Option Addr) (n cap : Nat) (ts : List Lg) (C : Array Value) (g : Bool) (HC : Hid (nv (netS ts) (clS ts) = C)) (HG : Hid (goodLg ts = g)) (w : World) (hn : n ≤ 2000000) (hts : Hid (LgAt w w.heap.size A n ts)) (hT : Hid (Tab w)) :
    Calls Tryd.prog 49 #[.slice A n cap] w (APost (.tuple #[.agg C, .bool g]) w) := by
  have hc := HC.out
  unfold netS clS at hc
  cases g
  · rw [HG.out] at hc
    rw [← hc]
    exact net_bad A n cap ts w hn HG hts
  · rw [HG.out] at hc
    rw [← hc]
    exact net_good A n cap ts w hn HG hts hT
theorem tru_none (n : Nat) (h : n ≤ 12) : tru (mks n []) n = [] := tru_all List.Pairwise.nil (fun x hx => by cases hx)
theorem ps_S (ts : List Lg) : tru (mks 8 (netS ts).ps) 8 = psIds ts := by
  unfold netS psIds
  cases h : goodLg ts
  · exact tru_none 8 (by decide)
  · exact tru_ps (ok_net h)
theorem tr_S (ts : List Lg) : tru (mks 12 (netS ts).tr) 12 = trIds ts := by
  unfold netS trIds
  cases h : goodLg ts
  · exact tru_none 12 (by decide)
  · exact tru_tr (ok_net h)
theorem cl_S (ts : List Lg) : tru (clS ts) 12 = clIds ts := by
  unfold clS clIds
  cases h : goodLg ts
  · exact tru_none 12 (by decide)
  · exact clM_all h _
theorem psIds_len (ts : List Lg) : (psIds ts).length ≤ 12 := by
  unfold psIds
  cases h : goodLg ts
  · exact Nat.zero_le _
  · exact Nat.le_trans (ok_net h).ps_len (by decide)
theorem trIds_len (ts : List Lg) : (trIds ts).length ≤ 12 := by
  unfold trIds
  cases h : goodLg ts
  · exact Nat.zero_le _
  · exact (ok_net h).tr_len
theorem clIds_len (ts : List Lg) : (clIds ts).length ≤ 12 := by
  unfold clIds
  cases h : goodLg ts
  · exact Nat.zero_le _
  · exact Nat.le_trans (clN_len ts (net ts) ts.length) (goodLg_len h)
theorem bs_ps {w : World} {g : Nat} {s : Net} {cl : List Bool} (h : Blk w g 74 (nv s cl)) : BsAt w g 0 (mks 8 s.ps) := fun k b hk => by
  have hl : k < 8 := by have := (List.getElem?_eq_some_iff.1 hk).1; rwa [mks_len] at this
  rw [mks_at _ hl] at hk
  exact ⟨h.lt, by rw [Nat.zero_add, h.cell, nv_ps hl, Option.some.inj hk]⟩
theorem bs_tr {w : World} {g : Nat} {s : Net} {cl : List Bool} (hn : NOk s cl) (h : Blk w g 74 (nv s cl)) : BsAt w g 32 (mks 12 s.tr) := fun k b hk => by
  have hl : k < 12 := by have := (List.getElem?_eq_some_iff.1 hk).1; rwa [mks_len] at this
  rw [mks_at _ hl] at hk
  exact ⟨h.lt, by rw [h.cell, nv_tr hn hl, Option.some.inj hk]⟩
theorem bs_cl {w : World} {g : Nat} {s : Net} {cl : List Bool} (hn : NOk s cl) (h : Blk w g 74 (nv s cl)) : BsAt w g 44 cl := fun k b hk => ⟨h.lt, by rw [h.cell, nv_cl hn hk]⟩
/-- a network laid into a new block -/
theorem lay_net {C : Array Value} (h0 : C.size = 56) (h1 : C.all (·.oneCell') = true) (w : World) : (storeCells ⟨w.heap.size, 0, none⟩ C.toList 0).run Tryd.prog (w.alloc (.cells #[.bool false, .bool false, .bool false, .bool false, .bool false, .bool false, .bool false, .bool false, .int .i64 0, .int .i64 0, .int .i64 0, .int .i64 0, .int .i64 0, .int .i64 0, .int .i64 0, .int .i64 0, .int .i64 0, .int .i64 0, .int .i64 0, .int .i64 0, .int .i64 0, .int .i64 0, .int .i64 0, .int .i64 0, .int .i64 0, .int .i64 0, .int .i64 0, .int .i64 0, .int .i64 0, .int .i64 0, .int .i64 0, .int .i64 0, .bool false, .bool false, .bool false, .bool false, .bool false, .bool false, .bool false, .bool false, .bool false, .bool false, .bool false, .bool false, .bool false, .bool false, .bool false, .bool false, .bool false, .bool false, .bool false, .bool false, .bool false, .bool false, .bool false, .bool false] 74)) = .ok () (w.alloc (.cells C 74)) :=
  run_storeCells_new w 74 #[.bool false, .bool false, .bool false, .bool false, .bool false, .bool false, .bool false, .bool false, .int .i64 0, .int .i64 0, .int .i64 0, .int .i64 0, .int .i64 0, .int .i64 0, .int .i64 0, .int .i64 0, .int .i64 0, .int .i64 0, .int .i64 0, .int .i64 0, .int .i64 0, .int .i64 0, .int .i64 0, .int .i64 0, .int .i64 0, .int .i64 0, .int .i64 0, .int .i64 0, .int .i64 0, .int .i64 0, .int .i64 0, .int .i64 0, .bool false, .bool false, .bool false, .bool false, .bool false, .bool false, .bool false, .bool false, .bool false, .bool false, .bool false, .bool false, .bool false, .bool false, .bool false, .bool false, .bool false, .bool false, .bool false, .bool false, .bool false, .bool false, .bool false, .bool false] C (by rw [sizeNet, h0]) (by rw [h0]; rfl) h1
#print axioms net_any
end Go.Proofs.YtgfopehceojahaaDoor.nq
