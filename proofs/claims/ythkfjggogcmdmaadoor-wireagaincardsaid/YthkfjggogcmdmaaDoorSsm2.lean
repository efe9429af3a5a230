import Derived.Test.YthkfjggogcmdmaaDoorSnum
namespace Go.Proofs.YthkfjggogcmdmaaDoor
open Go.RowKit
end Go.Proofs.YthkfjggogcmdmaaDoor
