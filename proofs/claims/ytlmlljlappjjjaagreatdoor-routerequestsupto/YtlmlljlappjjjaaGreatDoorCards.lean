/-
  DERIVED. GIVEN WITH THE SEED: THE CARDS: each row of YtlmlljlappjjjaaGreatDoorRows.lean that lists a variable, with what it lists TIED to the program's text (the seventh form; the later family's looks); each row that meets fmt, with fmt's text TOLD by the authors' own Lean function (tested against real Go, not proved from fmt's source: count such statements apart). THE CARD IS WHAT COUNTS. Prove the row's statement (the work); the ties are given (YtlmlljlappjjjaaGreatDoorTie.lean); close each card by the builder's one call (the guide's Derived/Test/ToyasCard.lean, 'card_holds'). Laid BY PROGRAM, IN A SANDBOX (cutbox-door.mjs). By AI agents, Wed Nov 11 2026. No macro, syntax, notation, axiom, sorry.
-/
import Derived.Test.YtlmlljlappjjjaaGreatDoorRows
import GoSem.ClaimSeven
namespace Go.Proofs.YtlmlljlappjjjaaGreatDoor
namespace Rows

/-- THE TIED CARD OF 'turnstilelaw18.RouteFinds'. -/
def routeFindsCard : Claim7 := { stood := { row := routeFindsRow, standIns := [], harness := (true, "d6f02638db0374ad1cf71e9737f02117ac693f620c21aeb54a0adbde18aefd86"), looks := true }, kinds := [], alts := [], laidByText := true, laidKinds := [.data, .pinned], laidTests := true, laidLooks := .later }
def RouteFindsCardSaid : Prop := Claim7.holds Tryz.pinned (.plain (OpenSpec.ofChange routeFindsSpec)) routeFindsCard

/-- THE TIED CARD OF 'turnstilelaw18.RouteRequests'. -/
def routeRequestsCard : Claim7 := { stood := { row := routeRequestsRow, standIns := [], harness := (true, "d6f02638db0374ad1cf71e9737f02117ac693f620c21aeb54a0adbde18aefd86"), looks := true }, kinds := [], alts := [], laidByText := true, laidKinds := [.data, .pinned], laidTests := true, laidLooks := .later }
def RouteRequestsCardSaid : Prop := Claim7.holds Tryz.pinned (.plain (OpenSpec.ofChange routeRequestsSpec)) routeRequestsCard

/-- THE TIED CARD OF 'turnstilelaw18.RouteOrder'. -/
def routeOrderCard : Claim7 := { stood := { row := routeOrderRow, standIns := [], harness := (true, "d6f02638db0374ad1cf71e9737f02117ac693f620c21aeb54a0adbde18aefd86"), looks := true }, kinds := [], alts := [], laidByText := true, laidKinds := [.data, .pinned], laidTests := true, laidLooks := .later }
def RouteOrderCardSaid : Prop := Claim7.holds Tryz.pinned (.plain (OpenSpec.ofChange routeOrderSpec)) routeOrderCard

/-- THE TIED CARD OF 'turnstilelaw18.RouteLawful'. -/
def routeLawfulCard : Claim7 := { stood := { row := routeLawfulRow, standIns := [], harness := (true, "d6f02638db0374ad1cf71e9737f02117ac693f620c21aeb54a0adbde18aefd86"), looks := true }, kinds := [], alts := [], laidByText := true, laidKinds := [.data, .pinned], laidTests := true, laidLooks := .later }
def RouteLawfulCardSaid : Prop := Claim7.holds Tryz.pinned (.plain (OpenSpec.ofChange routeLawfulSpec)) routeLawfulCard

/-- THE SECOND FORM's CARD OF 'turnstilelaw18.RouteFinds'. -/
def routeFindsUptoCard : Claim7 := { stood := { row := routeFindsUptoRow, standIns := [], harness := (true, "d6f02638db0374ad1cf71e9737f02117ac693f620c21aeb54a0adbde18aefd86"), looks := true }, kinds := [], alts := [], laidByText := true, laidKinds := [.data, .pinned], laidTests := true, laidLooks := .later }
def RouteFindsUptoCardSaid : Prop := Claim7.holds Tryz.pinned (.plain (OpenSpec.upto routeFindsSpec)) routeFindsUptoCard

/-- THE SECOND FORM's CARD OF 'turnstilelaw18.RouteRequests'. -/
def routeRequestsUptoCard : Claim7 := { stood := { row := routeRequestsUptoRow, standIns := [], harness := (true, "d6f02638db0374ad1cf71e9737f02117ac693f620c21aeb54a0adbde18aefd86"), looks := true }, kinds := [], alts := [], laidByText := true, laidKinds := [.data, .pinned], laidTests := true, laidLooks := .later }
def RouteRequestsUptoCardSaid : Prop := Claim7.holds Tryz.pinned (.plain (OpenSpec.upto routeRequestsSpec)) routeRequestsUptoCard

/-- THE SECOND FORM's CARD OF 'turnstilelaw18.RouteOrder'. -/
def routeOrderUptoCard : Claim7 := { stood := { row := routeOrderUptoRow, standIns := [], harness := (true, "d6f02638db0374ad1cf71e9737f02117ac693f620c21aeb54a0adbde18aefd86"), looks := true }, kinds := [], alts := [], laidByText := true, laidKinds := [.data, .pinned], laidTests := true, laidLooks := .later }
def RouteOrderUptoCardSaid : Prop := Claim7.holds Tryz.pinned (.plain (OpenSpec.upto routeOrderSpec)) routeOrderUptoCard

/-- THE SECOND FORM's CARD OF 'turnstilelaw18.RouteLawful'. -/
def routeLawfulUptoCard : Claim7 := { stood := { row := routeLawfulUptoRow, standIns := [], harness := (true, "d6f02638db0374ad1cf71e9737f02117ac693f620c21aeb54a0adbde18aefd86"), looks := true }, kinds := [], alts := [], laidByText := true, laidKinds := [.data, .pinned], laidTests := true, laidLooks := .later }
def RouteLawfulUptoCardSaid : Prop := Claim7.holds Tryz.pinned (.plain (OpenSpec.upto routeLawfulSpec)) routeLawfulUptoCard
end Rows
end Go.Proofs.YtlmlljlappjjjaaGreatDoor
