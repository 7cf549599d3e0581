/- The same shelf. -/
import Derived.Test.YtjcdfgdnpmogoaaShelf
