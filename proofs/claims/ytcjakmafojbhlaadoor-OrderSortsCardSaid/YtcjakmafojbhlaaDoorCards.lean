/-
  DERIVED. GIVEN WITH THE SEED: THE CARDS: each row of YtcjakmafojbhlaaDoorRows.lean that lists a variable, with what it lists TIED to the program's text (the seventh form; the later family's looks); each row that meets fmt, with fmt's text TOLD by the authors' own Lean function (tested against real Go, not proved from fmt's source: count such statements apart). THE CARD IS WHAT COUNTS. Prove the row's statement (the work); the ties are given (YtcjakmafojbhlaaDoorTie.lean); close each card by the builder's one call (the guide's Derived/Test/ToyasCard.lean, 'card_holds'). Laid BY PROGRAM, IN A SANDBOX (cutbox-door.mjs). By AI agents, Wed Nov 11 2026. No macro, syntax, notation, axiom, sorry.
-/
import Derived.Test.YtcjakmafojbhlaaDoorRows
import GoSem.ClaimSeven
namespace Go.Proofs.YtcjakmafojbhlaaDoor
namespace Rows

/-- THE TIED CARD OF 'hornbeamlaw04.OrderCompares'. -/
def orderComparesCard : Claim7 := { stood := { row := orderComparesRow, standIns := [], harness := (true, "1dacf915ef98e9279c254028d76816a3070411b57c2c25501f61bcd6c85f2fed"), looks := false }, kinds := [], alts := [], laidByText := true, laidKinds := [.data], laidTests := true, laidLooks := .later }
def OrderComparesCardSaid : Prop := Claim7.holds Tryd.pinned (.plain (OpenSpec.ofChange orderComparesSpec)) orderComparesCard

/-- THE TIED CARD OF 'hornbeamlaw04.OrderSorts'. -/
def orderSortsCard : Claim7 := { stood := { row := orderSortsRow, standIns := [], harness := (true, "1dacf915ef98e9279c254028d76816a3070411b57c2c25501f61bcd6c85f2fed"), looks := false }, kinds := [], alts := [], laidByText := true, laidKinds := [.data], laidTests := true, laidLooks := .later }
def OrderSortsCardSaid : Prop := Claim7.holds Tryd.pinned (.plain (OpenSpec.ofChange orderSortsSpec)) orderSortsCard

/-- THE TIED CARD OF 'hornbeamlaw04.OrderRanks'. -/
def orderRanksCard : Claim7 := { stood := { row := orderRanksRow, standIns := [], harness := (true, "1dacf915ef98e9279c254028d76816a3070411b57c2c25501f61bcd6c85f2fed"), looks := false }, kinds := [], alts := [], laidByText := true, laidKinds := [.data], laidTests := true, laidLooks := .later }
def OrderRanksCardSaid : Prop := Claim7.holds Tryd.pinned (.plain (OpenSpec.ofChange orderRanksSpec)) orderRanksCard

/-- THE TIED CARD OF 'hornbeamlaw04.OrderTotal'. -/
def orderTotalCard : Claim7 := { stood := { row := orderTotalRow, standIns := [], harness := (true, "1dacf915ef98e9279c254028d76816a3070411b57c2c25501f61bcd6c85f2fed"), looks := false }, kinds := [], alts := [], laidByText := true, laidKinds := [.data], laidTests := true, laidLooks := .later }
def OrderTotalCardSaid : Prop := Claim7.holds Tryd.pinned (.plain (OpenSpec.ofChange orderTotalSpec)) orderTotalCard

/-- THE TIED CARD OF 'hornbeamlaw04.OrderArguments'. -/
def orderArgumentsCard : Claim7 := { stood := { row := orderArgumentsRow, standIns := [], harness := (true, "1dacf915ef98e9279c254028d76816a3070411b57c2c25501f61bcd6c85f2fed"), looks := false }, kinds := [], alts := [], laidByText := true, laidKinds := [.data], laidTests := true, laidLooks := .later }
def OrderArgumentsCardSaid : Prop := Claim7.holds Tryd.pinned (.plain (OpenSpec.ofChange orderArgumentsSpec)) orderArgumentsCard

/-- THE TIED CARD OF 'hornbeamlaw04.OrderSorted'. -/
def orderSortedCard : Claim7 := { stood := { row := orderSortedRow, standIns := [], harness := (true, "1dacf915ef98e9279c254028d76816a3070411b57c2c25501f61bcd6c85f2fed"), looks := false }, kinds := [], alts := [], laidByText := true, laidKinds := [.data], laidTests := true, laidLooks := .later }
def OrderSortedCardSaid : Prop := Claim7.holds Tryd.pinned (.plain (OpenSpec.ofChange orderSortedSpec)) orderSortedCard

/-- THE TIED CARD OF 'hornbeamlaw04.OrderKeyed'. -/
def orderKeyedCard : Claim7 := { stood := { row := orderKeyedRow, standIns := [], harness := (true, "1dacf915ef98e9279c254028d76816a3070411b57c2c25501f61bcd6c85f2fed"), looks := false }, kinds := [], alts := [], laidByText := true, laidKinds := [.data], laidTests := true, laidLooks := .later }
def OrderKeyedCardSaid : Prop := Claim7.holds Tryd.pinned (.plain (OpenSpec.ofChange orderKeyedSpec)) orderKeyedCard

/-- THE TIED CARD OF 'hornbeamlaw04.OrderRanked'. -/
def orderRankedCard : Claim7 := { stood := { row := orderRankedRow, standIns := [], harness := (true, "1dacf915ef98e9279c254028d76816a3070411b57c2c25501f61bcd6c85f2fed"), looks := false }, kinds := [], alts := [], laidByText := true, laidKinds := [.data], laidTests := true, laidLooks := .later }
def OrderRankedCardSaid : Prop := Claim7.holds Tryd.pinned (.plain (OpenSpec.ofChange orderRankedSpec)) orderRankedCard

/-- THE TIED CARD OF 'hornbeamlaw04.OrderKnown'. -/
def orderKnownCard : Claim7 := { stood := { row := orderKnownRow, standIns := [], harness := (true, "1dacf915ef98e9279c254028d76816a3070411b57c2c25501f61bcd6c85f2fed"), looks := false }, kinds := [], alts := [], laidByText := true, laidKinds := [.data], laidTests := true, laidLooks := .later }
def OrderKnownCardSaid : Prop := Claim7.holds Tryd.pinned (.plain (OpenSpec.ofChange orderKnownSpec)) orderKnownCard

/-- THE SECOND FORM's CARD OF 'hornbeamlaw04.OrderCompares'. -/
def orderComparesUptoCard : Claim7 := { stood := { row := orderComparesUptoRow, standIns := [], harness := (true, "1dacf915ef98e9279c254028d76816a3070411b57c2c25501f61bcd6c85f2fed"), looks := false }, kinds := [], alts := [], laidByText := true, laidKinds := [.data], laidTests := true, laidLooks := .later }
def OrderComparesUptoCardSaid : Prop := Claim7.holds Tryd.pinned (.plain (OpenSpec.upto orderComparesSpec)) orderComparesUptoCard

/-- THE SECOND FORM's CARD OF 'hornbeamlaw04.OrderSorts'. -/
def orderSortsUptoCard : Claim7 := { stood := { row := orderSortsUptoRow, standIns := [], harness := (true, "1dacf915ef98e9279c254028d76816a3070411b57c2c25501f61bcd6c85f2fed"), looks := false }, kinds := [], alts := [], laidByText := true, laidKinds := [.data], laidTests := true, laidLooks := .later }
def OrderSortsUptoCardSaid : Prop := Claim7.holds Tryd.pinned (.plain (OpenSpec.upto orderSortsSpec)) orderSortsUptoCard

/-- THE SECOND FORM's CARD OF 'hornbeamlaw04.OrderRanks'. -/
def orderRanksUptoCard : Claim7 := { stood := { row := orderRanksUptoRow, standIns := [], harness := (true, "1dacf915ef98e9279c254028d76816a3070411b57c2c25501f61bcd6c85f2fed"), looks := false }, kinds := [], alts := [], laidByText := true, laidKinds := [.data], laidTests := true, laidLooks := .later }
def OrderRanksUptoCardSaid : Prop := Claim7.holds Tryd.pinned (.plain (OpenSpec.upto orderRanksSpec)) orderRanksUptoCard

/-- THE SECOND FORM's CARD OF 'hornbeamlaw04.OrderTotal'. -/
def orderTotalUptoCard : Claim7 := { stood := { row := orderTotalUptoRow, standIns := [], harness := (true, "1dacf915ef98e9279c254028d76816a3070411b57c2c25501f61bcd6c85f2fed"), looks := false }, kinds := [], alts := [], laidByText := true, laidKinds := [.data], laidTests := true, laidLooks := .later }
def OrderTotalUptoCardSaid : Prop := Claim7.holds Tryd.pinned (.plain (OpenSpec.upto orderTotalSpec)) orderTotalUptoCard

/-- THE SECOND FORM's CARD OF 'hornbeamlaw04.OrderArguments'. -/
def orderArgumentsUptoCard : Claim7 := { stood := { row := orderArgumentsUptoRow, standIns := [], harness := (true, "1dacf915ef98e9279c254028d76816a3070411b57c2c25501f61bcd6c85f2fed"), looks := false }, kinds := [], alts := [], laidByText := true, laidKinds := [.data], laidTests := true, laidLooks := .later }
def OrderArgumentsUptoCardSaid : Prop := Claim7.holds Tryd.pinned (.plain (OpenSpec.upto orderArgumentsSpec)) orderArgumentsUptoCard

/-- THE SECOND FORM's CARD OF 'hornbeamlaw04.OrderSorted'. -/
def orderSortedUptoCard : Claim7 := { stood := { row := orderSortedUptoRow, standIns := [], harness := (true, "1dacf915ef98e9279c254028d76816a3070411b57c2c25501f61bcd6c85f2fed"), looks := false }, kinds := [], alts := [], laidByText := true, laidKinds := [.data], laidTests := true, laidLooks := .later }
def OrderSortedUptoCardSaid : Prop := Claim7.holds Tryd.pinned (.plain (OpenSpec.upto orderSortedSpec)) orderSortedUptoCard

/-- THE SECOND FORM's CARD OF 'hornbeamlaw04.OrderKeyed'. -/
def orderKeyedUptoCard : Claim7 := { stood := { row := orderKeyedUptoRow, standIns := [], harness := (true, "1dacf915ef98e9279c254028d76816a3070411b57c2c25501f61bcd6c85f2fed"), looks := false }, kinds := [], alts := [], laidByText := true, laidKinds := [.data], laidTests := true, laidLooks := .later }
def OrderKeyedUptoCardSaid : Prop := Claim7.holds Tryd.pinned (.plain (OpenSpec.upto orderKeyedSpec)) orderKeyedUptoCard

/-- THE SECOND FORM's CARD OF 'hornbeamlaw04.OrderRanked'. -/
def orderRankedUptoCard : Claim7 := { stood := { row := orderRankedUptoRow, standIns := [], harness := (true, "1dacf915ef98e9279c254028d76816a3070411b57c2c25501f61bcd6c85f2fed"), looks := false }, kinds := [], alts := [], laidByText := true, laidKinds := [.data], laidTests := true, laidLooks := .later }
def OrderRankedUptoCardSaid : Prop := Claim7.holds Tryd.pinned (.plain (OpenSpec.upto orderRankedSpec)) orderRankedUptoCard

/-- THE SECOND FORM's CARD OF 'hornbeamlaw04.OrderKnown'. -/
def orderKnownUptoCard : Claim7 := { stood := { row := orderKnownUptoRow, standIns := [], harness := (true, "1dacf915ef98e9279c254028d76816a3070411b57c2c25501f61bcd6c85f2fed"), looks := false }, kinds := [], alts := [], laidByText := true, laidKinds := [.data], laidTests := true, laidLooks := .later }
def OrderKnownUptoCardSaid : Prop := Claim7.holds Tryd.pinned (.plain (OpenSpec.upto orderKnownSpec)) orderKnownUptoCard
end Rows
end Go.Proofs.YtcjakmafojbhlaaDoor
