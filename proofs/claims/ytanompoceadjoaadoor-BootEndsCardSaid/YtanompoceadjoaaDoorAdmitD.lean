/- session.Admit, what it refuses behind what may be: by contract. -/
import Derived.Test.YtanompoceadjoaaDoorAdmitB
namespace Go.Proofs.YtanompoceadjoaaDoor
open Go.RowKit
end Go.Proofs.YtanompoceadjoaaDoor
