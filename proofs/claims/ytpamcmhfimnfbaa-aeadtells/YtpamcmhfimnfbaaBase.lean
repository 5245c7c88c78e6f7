/-
  All general pieces.
-/
import Derived.Test.YtpamcmhfimnfbaaBaseE
