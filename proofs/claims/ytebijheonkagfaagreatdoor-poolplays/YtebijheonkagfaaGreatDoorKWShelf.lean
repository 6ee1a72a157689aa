/- Parts. -/
import Derived.Shelf.Strings.Builder1
import Derived.Test.YtebijheonkagfaaGreatDoorProg

