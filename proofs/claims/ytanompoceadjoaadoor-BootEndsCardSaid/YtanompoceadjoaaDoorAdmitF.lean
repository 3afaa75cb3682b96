/- session.Admit, what it refuses that is not newer, or at the generations' end: by contract. -/
import Derived.Test.YtanompoceadjoaaDoorAdmitB
namespace Go.Proofs.YtanompoceadjoaaDoor
open Go.RowKit
end Go.Proofs.YtanompoceadjoaaDoor
