/- The shelf. -/
import Derived.Test.YtgkhhfojioepgaaShelf
