/- session.Admit, what it refuses what it admits: by contract. -/
import Derived.Test.YtanompoceadjoaaDoorAdmitH
namespace Go.Proofs.YtanompoceadjoaaDoor
open Go.RowKit
end Go.Proofs.YtanompoceadjoaaDoor
