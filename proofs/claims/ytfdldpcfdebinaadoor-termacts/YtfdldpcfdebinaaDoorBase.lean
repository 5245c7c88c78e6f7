/-
  All general pieces.
-/
import Derived.Test.YtfdldpcfdebinaaDoorBaseD
