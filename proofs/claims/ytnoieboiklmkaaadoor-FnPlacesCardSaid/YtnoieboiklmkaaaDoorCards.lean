/-
  DERIVED. GIVEN WITH THE SEED: THE CARDS: each row of YtnoieboiklmkaaaDoorRows.lean that lists a variable, with what it lists TIED to the program's text (the seventh form; the later family's looks); each row that meets fmt, with fmt's text TOLD by the authors' own Lean function (tested against real Go, not proved from fmt's source: count such statements apart). THE CARD IS WHAT COUNTS. Prove the row's statement (the work); the ties are given (YtnoieboiklmkaaaDoorTie.lean); close each card by the builder's one call (the guide's Derived/Test/ToyasCard.lean, 'card_holds'). Laid BY PROGRAM, IN A SANDBOX (cutbox-door.mjs). By AI agents, Wed Nov 11 2026. No macro, syntax, notation, axiom, sorry.
-/
import Derived.Test.YtnoieboiklmkaaaDoorRows
import GoSem.ClaimSeven
namespace Go.Proofs.YtnoieboiklmkaaaDoor
namespace Rows

/-- THE TIED CARD OF 'laws.FnExactPlacedStations'. -/
def fnExactPlacedStationsCard : Claim7 := { stood := { row := fnExactPlacedStationsRow, standIns := [], harness := (true, "f479369b0c93bb1984ffe2d67a5e42df7f0ebcc631e84e65543bb630fe952fc9"), looks := false }, kinds := [], alts := [], laidByText := true, laidKinds := [.data], laidTests := true, laidLooks := .later }
def FnExactPlacedStationsCardSaid : Prop := Claim7.holds Tryd.pinned (.plain (OpenSpec.ofChange fnExactPlacedStationsSpec)) fnExactPlacedStationsCard

/-- THE TIED CARD OF 'laws.FnExactPlaceOf'. -/
def fnExactPlaceOfCard : Claim7 := { stood := { row := fnExactPlaceOfRow, standIns := [], harness := (true, "f479369b0c93bb1984ffe2d67a5e42df7f0ebcc631e84e65543bb630fe952fc9"), looks := false }, kinds := [], alts := [], laidByText := true, laidKinds := [.data], laidTests := true, laidLooks := .later }
def FnExactPlaceOfCardSaid : Prop := Claim7.holds Tryd.pinned (.plain (OpenSpec.ofChange fnExactPlaceOfSpec)) fnExactPlaceOfCard

/-- THE TIED CARD OF 'laws.FnExactTreeLegs'. -/
def fnExactTreeLegsCard : Claim7 := { stood := { row := fnExactTreeLegsRow, standIns := [], harness := (true, "f479369b0c93bb1984ffe2d67a5e42df7f0ebcc631e84e65543bb630fe952fc9"), looks := false }, kinds := [], alts := [], laidByText := true, laidKinds := [.data], laidTests := true, laidLooks := .later }
def FnExactTreeLegsCardSaid : Prop := Claim7.holds Tryd.pinned (.plain (OpenSpec.ofChange fnExactTreeLegsSpec)) fnExactTreeLegsCard

/-- THE TIED CARD OF 'laws.FnExactClosingLegs'. -/
def fnExactClosingLegsCard : Claim7 := { stood := { row := fnExactClosingLegsRow, standIns := [], harness := (true, "f479369b0c93bb1984ffe2d67a5e42df7f0ebcc631e84e65543bb630fe952fc9"), looks := false }, kinds := [], alts := [], laidByText := true, laidKinds := [.data], laidTests := true, laidLooks := .later }
def FnExactClosingLegsCardSaid : Prop := Claim7.holds Tryd.pinned (.plain (OpenSpec.ofChange fnExactClosingLegsSpec)) fnExactClosingLegsCard

/-- THE TIED CARD OF 'laws.FnExactErrorOf'. -/
def fnExactErrorOfCard : Claim7 := { stood := { row := fnExactErrorOfRow, standIns := [], harness := (true, "f479369b0c93bb1984ffe2d67a5e42df7f0ebcc631e84e65543bb630fe952fc9"), looks := false }, kinds := [], alts := [], laidByText := true, laidKinds := [.data], laidTests := true, laidLooks := .later }
def FnExactErrorOfCardSaid : Prop := Claim7.holds Tryd.pinned (.plain (OpenSpec.ofChange fnExactErrorOfSpec)) fnExactErrorOfCard

/-- THE TIED CARD OF 'laws.FnExactDepthOf'. -/
def fnExactDepthOfCard : Claim7 := { stood := { row := fnExactDepthOfRow, standIns := [], harness := (true, "f479369b0c93bb1984ffe2d67a5e42df7f0ebcc631e84e65543bb630fe952fc9"), looks := false }, kinds := [], alts := [], laidByText := true, laidKinds := [.data], laidTests := true, laidLooks := .later }
def FnExactDepthOfCardSaid : Prop := Claim7.holds Tryd.pinned (.plain (OpenSpec.ofChange fnExactDepthOfSpec)) fnExactDepthOfCard

/-- THE TIED CARD OF 'laws.FnExactExtentOf'. -/
def fnExactExtentOfCard : Claim7 := { stood := { row := fnExactExtentOfRow, standIns := [], harness := (true, "f479369b0c93bb1984ffe2d67a5e42df7f0ebcc631e84e65543bb630fe952fc9"), looks := false }, kinds := [], alts := [], laidByText := true, laidKinds := [.data], laidTests := true, laidLooks := .later }
def FnExactExtentOfCardSaid : Prop := Claim7.holds Tryd.pinned (.plain (OpenSpec.ofChange fnExactExtentOfSpec)) fnExactExtentOfCard

/-- THE TIED CARD OF 'laws.FnExactDeepestStation'. -/
def fnExactDeepestStationCard : Claim7 := { stood := { row := fnExactDeepestStationRow, standIns := [], harness := (true, "f479369b0c93bb1984ffe2d67a5e42df7f0ebcc631e84e65543bb630fe952fc9"), looks := false }, kinds := [], alts := [], laidByText := true, laidKinds := [.data], laidTests := true, laidLooks := .later }
def FnExactDeepestStationCardSaid : Prop := Claim7.holds Tryd.pinned (.plain (OpenSpec.ofChange fnExactDeepestStationSpec)) fnExactDeepestStationCard

/-- THE TIED CARD OF 'laws.FnExactStationsWithin'. -/
def fnExactStationsWithinCard : Claim7 := { stood := { row := fnExactStationsWithinRow, standIns := [], harness := (true, "f479369b0c93bb1984ffe2d67a5e42df7f0ebcc631e84e65543bb630fe952fc9"), looks := false }, kinds := [], alts := [], laidByText := true, laidKinds := [.data], laidTests := true, laidLooks := .later }
def FnExactStationsWithinCardSaid : Prop := Claim7.holds Tryd.pinned (.plain (OpenSpec.ofChange fnExactStationsWithinSpec)) fnExactStationsWithinCard

/-- THE TIED CARD OF 'laws.FnPlaces'. -/
def fnPlacesCard : Claim7 := { stood := { row := fnPlacesRow, standIns := [], harness := (true, "f479369b0c93bb1984ffe2d67a5e42df7f0ebcc631e84e65543bb630fe952fc9"), looks := false }, kinds := [], alts := [], laidByText := true, laidKinds := [.data], laidTests := true, laidLooks := .later }
def FnPlacesCardSaid : Prop := Claim7.holds Tryd.pinned (.plain (OpenSpec.ofChange fnPlacesSpec)) fnPlacesCard

/-- THE TIED CARD OF 'laws.FnExtents'. -/
def fnExtentsCard : Claim7 := { stood := { row := fnExtentsRow, standIns := [], harness := (true, "f479369b0c93bb1984ffe2d67a5e42df7f0ebcc631e84e65543bb630fe952fc9"), looks := false }, kinds := [], alts := [], laidByText := true, laidKinds := [.data], laidTests := true, laidLooks := .later }
def FnExtentsCardSaid : Prop := Claim7.holds Tryd.pinned (.plain (OpenSpec.ofChange fnExtentsSpec)) fnExtentsCard

/-- THE SECOND FORM's CARD OF 'laws.FnExactPlacedStations'. -/
def fnExactPlacedStationsUptoCard : Claim7 := { stood := { row := fnExactPlacedStationsUptoRow, standIns := [], harness := (true, "f479369b0c93bb1984ffe2d67a5e42df7f0ebcc631e84e65543bb630fe952fc9"), looks := false }, kinds := [], alts := [], laidByText := true, laidKinds := [.data], laidTests := true, laidLooks := .later }
def FnExactPlacedStationsUptoCardSaid : Prop := Claim7.holds Tryd.pinned (.plain (OpenSpec.upto fnExactPlacedStationsSpec)) fnExactPlacedStationsUptoCard

/-- THE SECOND FORM's CARD OF 'laws.FnExactPlaceOf'. -/
def fnExactPlaceOfUptoCard : Claim7 := { stood := { row := fnExactPlaceOfUptoRow, standIns := [], harness := (true, "f479369b0c93bb1984ffe2d67a5e42df7f0ebcc631e84e65543bb630fe952fc9"), looks := false }, kinds := [], alts := [], laidByText := true, laidKinds := [.data], laidTests := true, laidLooks := .later }
def FnExactPlaceOfUptoCardSaid : Prop := Claim7.holds Tryd.pinned (.plain (OpenSpec.upto fnExactPlaceOfSpec)) fnExactPlaceOfUptoCard

/-- THE SECOND FORM's CARD OF 'laws.FnExactTreeLegs'. -/
def fnExactTreeLegsUptoCard : Claim7 := { stood := { row := fnExactTreeLegsUptoRow, standIns := [], harness := (true, "f479369b0c93bb1984ffe2d67a5e42df7f0ebcc631e84e65543bb630fe952fc9"), looks := false }, kinds := [], alts := [], laidByText := true, laidKinds := [.data], laidTests := true, laidLooks := .later }
def FnExactTreeLegsUptoCardSaid : Prop := Claim7.holds Tryd.pinned (.plain (OpenSpec.upto fnExactTreeLegsSpec)) fnExactTreeLegsUptoCard

/-- THE SECOND FORM's CARD OF 'laws.FnExactClosingLegs'. -/
def fnExactClosingLegsUptoCard : Claim7 := { stood := { row := fnExactClosingLegsUptoRow, standIns := [], harness := (true, "f479369b0c93bb1984ffe2d67a5e42df7f0ebcc631e84e65543bb630fe952fc9"), looks := false }, kinds := [], alts := [], laidByText := true, laidKinds := [.data], laidTests := true, laidLooks := .later }
def FnExactClosingLegsUptoCardSaid : Prop := Claim7.holds Tryd.pinned (.plain (OpenSpec.upto fnExactClosingLegsSpec)) fnExactClosingLegsUptoCard

/-- THE SECOND FORM's CARD OF 'laws.FnExactErrorOf'. -/
def fnExactErrorOfUptoCard : Claim7 := { stood := { row := fnExactErrorOfUptoRow, standIns := [], harness := (true, "f479369b0c93bb1984ffe2d67a5e42df7f0ebcc631e84e65543bb630fe952fc9"), looks := false }, kinds := [], alts := [], laidByText := true, laidKinds := [.data], laidTests := true, laidLooks := .later }
def FnExactErrorOfUptoCardSaid : Prop := Claim7.holds Tryd.pinned (.plain (OpenSpec.upto fnExactErrorOfSpec)) fnExactErrorOfUptoCard

/-- THE SECOND FORM's CARD OF 'laws.FnExactDepthOf'. -/
def fnExactDepthOfUptoCard : Claim7 := { stood := { row := fnExactDepthOfUptoRow, standIns := [], harness := (true, "f479369b0c93bb1984ffe2d67a5e42df7f0ebcc631e84e65543bb630fe952fc9"), looks := false }, kinds := [], alts := [], laidByText := true, laidKinds := [.data], laidTests := true, laidLooks := .later }
def FnExactDepthOfUptoCardSaid : Prop := Claim7.holds Tryd.pinned (.plain (OpenSpec.upto fnExactDepthOfSpec)) fnExactDepthOfUptoCard

/-- THE SECOND FORM's CARD OF 'laws.FnExactExtentOf'. -/
def fnExactExtentOfUptoCard : Claim7 := { stood := { row := fnExactExtentOfUptoRow, standIns := [], harness := (true, "f479369b0c93bb1984ffe2d67a5e42df7f0ebcc631e84e65543bb630fe952fc9"), looks := false }, kinds := [], alts := [], laidByText := true, laidKinds := [.data], laidTests := true, laidLooks := .later }
def FnExactExtentOfUptoCardSaid : Prop := Claim7.holds Tryd.pinned (.plain (OpenSpec.upto fnExactExtentOfSpec)) fnExactExtentOfUptoCard

/-- THE SECOND FORM's CARD OF 'laws.FnExactDeepestStation'. -/
def fnExactDeepestStationUptoCard : Claim7 := { stood := { row := fnExactDeepestStationUptoRow, standIns := [], harness := (true, "f479369b0c93bb1984ffe2d67a5e42df7f0ebcc631e84e65543bb630fe952fc9"), looks := false }, kinds := [], alts := [], laidByText := true, laidKinds := [.data], laidTests := true, laidLooks := .later }
def FnExactDeepestStationUptoCardSaid : Prop := Claim7.holds Tryd.pinned (.plain (OpenSpec.upto fnExactDeepestStationSpec)) fnExactDeepestStationUptoCard

/-- THE SECOND FORM's CARD OF 'laws.FnExactStationsWithin'. -/
def fnExactStationsWithinUptoCard : Claim7 := { stood := { row := fnExactStationsWithinUptoRow, standIns := [], harness := (true, "f479369b0c93bb1984ffe2d67a5e42df7f0ebcc631e84e65543bb630fe952fc9"), looks := false }, kinds := [], alts := [], laidByText := true, laidKinds := [.data], laidTests := true, laidLooks := .later }
def FnExactStationsWithinUptoCardSaid : Prop := Claim7.holds Tryd.pinned (.plain (OpenSpec.upto fnExactStationsWithinSpec)) fnExactStationsWithinUptoCard

/-- THE SECOND FORM's CARD OF 'laws.FnPlaces'. -/
def fnPlacesUptoCard : Claim7 := { stood := { row := fnPlacesUptoRow, standIns := [], harness := (true, "f479369b0c93bb1984ffe2d67a5e42df7f0ebcc631e84e65543bb630fe952fc9"), looks := false }, kinds := [], alts := [], laidByText := true, laidKinds := [.data], laidTests := true, laidLooks := .later }
def FnPlacesUptoCardSaid : Prop := Claim7.holds Tryd.pinned (.plain (OpenSpec.upto fnPlacesSpec)) fnPlacesUptoCard

/-- THE SECOND FORM's CARD OF 'laws.FnExtents'. -/
def fnExtentsUptoCard : Claim7 := { stood := { row := fnExtentsUptoRow, standIns := [], harness := (true, "f479369b0c93bb1984ffe2d67a5e42df7f0ebcc631e84e65543bb630fe952fc9"), looks := false }, kinds := [], alts := [], laidByText := true, laidKinds := [.data], laidTests := true, laidLooks := .later }
def FnExtentsUptoCardSaid : Prop := Claim7.holds Tryd.pinned (.plain (OpenSpec.upto fnExtentsSpec)) fnExtentsUptoCard
end Rows
end Go.Proofs.YtnoieboiklmkaaaDoor
