/-
  Lists of texts: the laws' own helpers (written by tools/mkroot.py out of DiskTo).
-/
import Derived.Test.YtpljdlgjeeikkaaDoorStrS
import Derived.Test.YtpljdlgjeeikkaaDoorEOg
namespace Go.Proofs.YtpljdlgjeeikkaaDoor
open Go.ChangeShapes Go.WideShapes Go.ChangeAt Go.RowKit
set_option linter.unusedVariables false
end Go.Proofs.YtpljdlgjeeikkaaDoor
