/- The state of an exact law over images: rows that the call made and boxes that hold images. -/
import Derived.Test.YtolifmgkkkclkaaBx
import Derived.Test.YtolifmgkkkclkaaImgA
