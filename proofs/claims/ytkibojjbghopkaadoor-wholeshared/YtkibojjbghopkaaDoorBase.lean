/-
  All general pieces.
-/
import Derived.Test.YtkibojjbghopkaaDoorG17
import Derived.Test.YtkibojjbghopkaaDoorG18
import Derived.Test.YtkibojjbghopkaaDoorG27
import Derived.Test.YtkibojjbghopkaaDoorG30
import Derived.Test.YtkibojjbghopkaaDoorG31
import Derived.Test.YtkibojjbghopkaaDoorG44
