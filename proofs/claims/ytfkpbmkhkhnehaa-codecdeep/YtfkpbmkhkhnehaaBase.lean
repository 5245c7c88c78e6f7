/-
  All general pieces.
-/
import Derived.Test.YtfkpbmkhkhnehaaBaseC
