/- session.Admit, what it refuses: by contract. -/
import Derived.Test.YtanompoceadjoaaDoorAdmitB
namespace Go.Proofs.YtanompoceadjoaaDoor
open Go.RowKit
end Go.Proofs.YtanompoceadjoaaDoor
