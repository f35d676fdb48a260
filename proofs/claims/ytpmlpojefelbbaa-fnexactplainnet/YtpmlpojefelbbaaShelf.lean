/-
  No contract of the library is wanted at this seat.
-/
import Derived.Test.YtpmlpojefelbbaaProg
namespace Go.Proofs.Ytpmlpojefelbbaa
end Go.Proofs.Ytpmlpojefelbbaa
