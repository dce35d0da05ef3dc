/-
  The network of any legs, by the program; placed stations, tree legs, closing legs.
  Conditions: the legs lie in one block, at most 2000000 of them; the variable holds the table of the sines.
-/
import Derived.Test.YtnoieboiklmkaaaDoorNqF
namespace Go.Proofs.YtnoieboiklmkaaaDoor.nq
open Go.RowKit
open reads base ty lg lgi win hs nt rowi sn
set_option linter.unusedVariables false
set_option linter.unusedSimpArgs false

def netS (ts : List Lg) : Net := if goodLg ts then net ts else none6
def clS (ts : List Lg) : List Bool := if goodLg ts then clM ts (net ts) ts.length else off12
theorem nok_S (ts : List Lg) : NOk (netS ts) (clS ts) := by
  unfold netS clS
  cases h : goodLg ts
  · exact ok_none
  · exact ⟨(ok_net h).1, clM_len _ _ _⟩
theorem net_any (A : Option Addr) (n cap : Nat) (ts : List Lg) (C : Array Value) (g : Bool) (HC : Hid (nv (netS ts) (clS ts) = C)) (HG : Hid (goodLg ts = g)) (w : World) (hn : n ≤ 2000000) (hts : Hid (LgAt w w.heap.size A n ts)) (hT : Hid (Tab w)) :
    Calls Tryd.prog 54 #[.slice A n cap] w (APost (.tuple #[.agg C, .bool g]) w) := by
  have hc := HC.out
  unfold netS clS at hc
  cases g
  · rw [HG.out] at hc
    rw [← hc]
    exact net_bad A n cap ts w hn HG hts
  · rw [HG.out] at hc
    rw [← hc]
    exact net_good A n cap ts w hn HG hts hT
theorem tru_none (n : Nat) (h : n ≤ 12) : tru (mks n []) n = [] := tru_all List.Pairwise.nil (fun x hx => by cases hx)
theorem ps_S (ts : List Lg) : tru (mks 8 (netS ts).ps) 8 = psIds ts := by
  unfold netS psIds
  cases h : goodLg ts
  · exact tru_none 8 (by decide)
  · exact tru_ps (ok_net h)
theorem tr_S (ts : List Lg) : tru (mks 12 (netS ts).tr) 12 = trIds ts := by
  unfold netS trIds
  cases h : goodLg ts
  · exact tru_none 12 (by decide)
  · exact tru_tr (ok_net h)
theorem cl_S (ts : List Lg) : tru (clS ts) 12 = clIds ts := by
  unfold clS clIds
  cases h : goodLg ts
  · exact tru_none 12 (by decide)
  · exact clM_all h _
theorem psIds_len (ts : List Lg) : (psIds ts).length ≤ 12 := by
  unfold psIds
  cases h : goodLg ts
  · exact Nat.zero_le _
  · exact Nat.le_trans (ok_net h).ps_len (by decide)
theorem trIds_len (ts : List Lg) : (trIds ts).length ≤ 12 := by
  unfold trIds
  cases h : goodLg ts
  · exact Nat.zero_le _
  · exact (ok_net h).tr_len
theorem clIds_len (ts : List Lg) : (clIds ts).length ≤ 12 := by
  unfold clIds
  cases h : goodLg ts
  · exact Nat.zero_le _
  · exact Nat.le_trans (clN_len ts (net ts) ts.length) (goodLg_len h)
theorem bs_ps {w : World} {g : Nat} {s : Net} {cl : List Bool} (h : Blk w g 66 (nv s cl)) : BsAt w g 0 (mks 8 s.ps) := fun k b hk => by
  have hl : k < 8 := by have := (List.getElem?_eq_some_iff.1 hk).1; rwa [mks_len] at this
  rw [mks_at _ hl] at hk
  exact ⟨h.lt, by rw [Nat.zero_add, h.cell, nv_ps hl, Option.some.inj hk]⟩
theorem bs_tr {w : World} {g : Nat} {s : Net} {cl : List Bool} (hn : NOk s cl) (h : Blk w g 66 (nv s cl)) : BsAt w g 32 (mks 12 s.tr) := fun k b hk => by
  have hl : k < 12 := by have := (List.getElem?_eq_some_iff.1 hk).1; rwa [mks_len] at this
  rw [mks_at _ hl] at hk
  exact ⟨h.lt, by rw [h.cell, nv_tr hn hl, Option.some.inj hk]⟩
theorem bs_cl {w : World} {g : Nat} {s : Net} {cl : List Bool} (hn : NOk s cl) (h : Blk w g 66 (nv s cl)) : BsAt w g 44 cl := fun k b hk => ⟨h.lt, by rw [h.cell, nv_cl hn hk]⟩
/-- a network laid into a new block -/
theorem lay_net {C : Array Value} (h0 : C.size = 56) (h1 : C.all (·.oneCell') = true) (w : World) : (storeCells ⟨w.heap.size, 0, none⟩ C.toList 0).run Tryd.prog (w.alloc (.cells #[.bool false, .bool false, .bool false, .bool false, .bool false, .bool false, .bool false, .bool false, .int .i64 0, .int .i64 0, .int .i64 0, .int .i64 0, .int .i64 0, .int .i64 0, .int .i64 0, .int .i64 0, .int .i64 0, .int .i64 0, .int .i64 0, .int .i64 0, .int .i64 0, .int .i64 0, .int .i64 0, .int .i64 0, .int .i64 0, .int .i64 0, .int .i64 0, .int .i64 0, .int .i64 0, .int .i64 0, .int .i64 0, .int .i64 0, .bool false, .bool false, .bool false, .bool false, .bool false, .bool false, .bool false, .bool false, .bool false, .bool false, .bool false, .bool false, .bool false, .bool false, .bool false, .bool false, .bool false, .bool false, .bool false, .bool false, .bool false, .bool false, .bool false, .bool false] 66)) = .ok () (w.alloc (.cells C 66)) :=
  run_storeCells_new w 66 #[.bool false, .bool false, .bool false, .bool false, .bool false, .bool false, .bool false, .bool false, .int .i64 0, .int .i64 0, .int .i64 0, .int .i64 0, .int .i64 0, .int .i64 0, .int .i64 0, .int .i64 0, .int .i64 0, .int .i64 0, .int .i64 0, .int .i64 0, .int .i64 0, .int .i64 0, .int .i64 0, .int .i64 0, .int .i64 0, .int .i64 0, .int .i64 0, .int .i64 0, .int .i64 0, .int .i64 0, .int .i64 0, .int .i64 0, .bool false, .bool false, .bool false, .bool false, .bool false, .bool false, .bool false, .bool false, .bool false, .bool false, .bool false, .bool false, .bool false, .bool false, .bool false, .bool false, .bool false, .bool false, .bool false, .bool false, .bool false, .bool false, .bool false, .bool false] C (by rw [sizeNet, h0]) (by rw [h0]; rfl) h1
set_option maxHeartbeats 8000000 in
set_option maxRecDepth 100000 in
theorem placed_impl (A : Option Addr) (n cap : Nat) (ts : List Lg) (w : World) (hn : n ≤ 2000000) (hts : Hid (LgAt w w.heap.size A n ts)) (hT : Hid (Tab w)) :
    Calls Tryd.prog 17 #[.slice A n cap] w (LPost (psIds ts) (goodLg ts) w) := by
  obtain ⟨C, HC⟩ : ∃ C, Hid (nv (netS ts) (clS ts) = C) := ⟨_, Lib.hid rfl⟩
  obtain ⟨g, HG⟩ : ∃ g, Hid (goodLg ts = g) := ⟨_, Lib.hid rfl⟩
  have hcz : C.size = 56 := by rw [← HC.out]; exact nv_size (nok_S ts)
  have HC1 := Lib.hid (show C.all (·.oneCell') = true by rw [← HC.out]; exact nv_one)
  rw [HG.out]
  go_enter Tryd.func17, Tryd.ntmps17
  go_wp2_with fail
  refine (net_any A n cap ts C g HC HG w hn hts hT).mono ?_
  rintro e w1 ⟨rfl, b1⟩
  have HB1 := Lib.hid b1
  clear b1
  have hst := lay_net hcz HC1.out w1
  have HB2 := Lib.hid (HB1.out.alloc HB1.out.size (.cells C 66))
  have HN2 := Lib.hid (show BsAt (w1.alloc (.cells C 66)) w1.heap.size 0 (mks 8 (netS ts).ps) from bs_ps (by rw [HC.out]; exact Blk.new _ _ _))
  go_wp2_with fail
  clear hst
  refine (marked_any w1.heap.size 0 8 _ _ (Lib.hid (mks_len _ _)) (by decide) HN2).mono ?_
  rintro e w2 ⟨A2, c2, rfl, hO, b2⟩
  have HF := Lib.hid (ps_S ts)
  rw [HF.out] at hO ⊢
  have HO := Lib.hid (own_mono hO HB2.out.size)
  have HB := Lib.hid (HB2.out.trans (b2.mono HB2.out.size))
  clear hO b2 HN2 HB2
  go_wp2_with fail
  go_ret2
  exact ⟨_, rfl, HO.out, HB.out⟩
set_option maxHeartbeats 8000000 in
set_option maxRecDepth 100000 in
theorem tree_impl (A : Option Addr) (n cap : Nat) (ts : List Lg) (w : World) (hn : n ≤ 2000000) (hts : Hid (LgAt w w.heap.size A n ts)) (hT : Hid (Tab w)) :
    Calls Tryd.prog 27 #[.slice A n cap] w (LPost (trIds ts) (goodLg ts) w) := by
  obtain ⟨C, HC⟩ : ∃ C, Hid (nv (netS ts) (clS ts) = C) := ⟨_, Lib.hid rfl⟩
  obtain ⟨g, HG⟩ : ∃ g, Hid (goodLg ts = g) := ⟨_, Lib.hid rfl⟩
  have hcz : C.size = 56 := by rw [← HC.out]; exact nv_size (nok_S ts)
  have HC1 := Lib.hid (show C.all (·.oneCell') = true by rw [← HC.out]; exact nv_one)
  rw [HG.out]
  go_enter Tryd.func27, Tryd.ntmps27
  go_wp2_with fail
  refine (net_any A n cap ts C g HC HG w hn hts hT).mono ?_
  rintro e w1 ⟨rfl, b1⟩
  have HB1 := Lib.hid b1
  clear b1
  have hst := lay_net hcz HC1.out w1
  have HB2 := Lib.hid (HB1.out.alloc HB1.out.size (.cells C 66))
  have HN2 := Lib.hid (show BsAt (w1.alloc (.cells C 66)) w1.heap.size 32 (mks 12 (netS ts).tr) from bs_tr (nok_S ts) (by rw [HC.out]; exact Blk.new _ _ _))
  go_wp2_with fail
  clear hst
  refine (marked_any w1.heap.size 32 12 _ _ (Lib.hid (mks_len _ _)) (by decide) HN2).mono ?_
  rintro e w2 ⟨A2, c2, rfl, hO, b2⟩
  have HF := Lib.hid (tr_S ts)
  rw [HF.out] at hO ⊢
  have HO := Lib.hid (own_mono hO HB2.out.size)
  have HB := Lib.hid (HB2.out.trans (b2.mono HB2.out.size))
  clear hO b2 HN2 HB2
  go_wp2_with fail
  go_ret2
  exact ⟨_, rfl, HO.out, HB.out⟩
set_option maxHeartbeats 8000000 in
set_option maxRecDepth 100000 in
theorem closing_impl (A : Option Addr) (n cap : Nat) (ts : List Lg) (w : World) (hn : n ≤ 2000000) (hts : Hid (LgAt w w.heap.size A n ts)) (hT : Hid (Tab w)) :
    Calls Tryd.prog 29 #[.slice A n cap] w (LPost (clIds ts) (goodLg ts) w) := by
  obtain ⟨C, HC⟩ : ∃ C, Hid (nv (netS ts) (clS ts) = C) := ⟨_, Lib.hid rfl⟩
  obtain ⟨g, HG⟩ : ∃ g, Hid (goodLg ts = g) := ⟨_, Lib.hid rfl⟩
  have hcz : C.size = 56 := by rw [← HC.out]; exact nv_size (nok_S ts)
  have HC1 := Lib.hid (show C.all (·.oneCell') = true by rw [← HC.out]; exact nv_one)
  rw [HG.out]
  go_enter Tryd.func29, Tryd.ntmps29
  go_wp2_with fail
  refine (net_any A n cap ts C g HC HG w hn hts hT).mono ?_
  rintro e w1 ⟨rfl, b1⟩
  have HB1 := Lib.hid b1
  clear b1
  have hst := lay_net hcz HC1.out w1
  have HB2 := Lib.hid (HB1.out.alloc HB1.out.size (.cells C 66))
  have HN2 := Lib.hid (show BsAt (w1.alloc (.cells C 66)) w1.heap.size 44 (clS ts) from bs_cl (nok_S ts) (by rw [HC.out]; exact Blk.new _ _ _))
  go_wp2_with fail
  clear hst
  refine (marked_any w1.heap.size 44 12 _ _ (Lib.hid ((nok_S ts).2)) (by decide) HN2).mono ?_
  rintro e w2 ⟨A2, c2, rfl, hO, b2⟩
  have HF := Lib.hid (cl_S ts)
  rw [HF.out] at hO ⊢
  have HO := Lib.hid (own_mono hO HB2.out.size)
  have HB := Lib.hid (HB2.out.trans (b2.mono HB2.out.size))
  clear hO b2 HN2 HB2
  go_wp2_with fail
  go_ret2
  exact ⟨_, rfl, HO.out, HB.out⟩
#print axioms closing_impl
end Go.Proofs.YtnoieboiklmkaaaDoor.nq
