/- No contract of the shelf is wanted here. -/
import Derived.Test.YtamndmlaikgogaaBase
import Derived.Lib.SliceRun
