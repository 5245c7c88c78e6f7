/-
  All general pieces.
-/
import Derived.Test.YtniogaimhkcedaaDoorBaseF
