import Derived.Test.YtoljmlhnbmeloaaBits
namespace Go.Proofs.Ytoljmlhnbmeloaa
open Go.RowKit




end Go.Proofs.Ytoljmlhnbmeloaa
