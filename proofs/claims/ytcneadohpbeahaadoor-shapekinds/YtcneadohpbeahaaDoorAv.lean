/- Names of kinds and kinds of names, as the document has them: the law's walk; no statement of the seat is proved here. -/
import Derived.Test.YtcneadohpbeahaaDoorAl
namespace Go.Proofs.YtcneadohpbeahaaDoor
open Go.RowKit Go.Maps

set_option maxHeartbeats 4000000 in
theorem kinds_law (k : Int) (x : ByteArray) (w : World) (hT : Tab w) : Calls Tryd.prog 4 #[.int .i64 k, .string x] w fun e w' => e = .returned (.bool true) ∧ Below w.heap.size w w' := by
  have C19 := hid (fun W (hb : Below w.heap.size w W) => kind_call x W (hT.keep hb))
  have C20 := hid (fun W => refKind_call x W)
  have C21 := hid (fun W (hb : Below w.heap.size w W) => name_call k W (hT.keep hb))
  have C22 := hid (fun W => refName_call k W)
  have C23 := hid (fun W (hb : Below w.heap.size w W) => part_call k W (hT.keep hb))
  have C24 := hid (fun W => refPart_call k W)
  have C18 := hid (fun W (hb : Below w.heap.size w W) => lives_call W (hT.keep hb))
  clear hT
  generalize rnm k = n at *
  generalize partK k = p at *
  have hn : (n.toList == n.toList) = true := by simp
  go_enter Tryd.func4, Tryd.ntmps4
  go_wp2_with (first
    | (go_at_call 19; refine (C19.out _ (Below.refl _ _)).mono ?_; rintro e w1 ⟨⟨k1, o1, rfl, hk1⟩, hb1⟩; have K1 := hid hb1; have Z1 := hid hk1; clear hb1 hk1)
    | (go_at_call 20; refine (C20.out _).mono ?_; rintro e w2 ⟨⟨k2, o2, rfl, hk2⟩, hb2⟩; have K2 := hid (gt K1.out hb2); obtain ⟨e1, e2⟩ := Z1.out.one hk2; subst e1; subst e2; clear hb2 hk2)
    | (go_at_call 21; refine (C21.out _ K2.out).mono ?_; rintro e w3 ⟨rfl, hb3⟩; have K3 := hid (gt K2.out hb3); clear hb3)
    | (go_at_call 22; refine (C22.out _).mono ?_; rintro e w4 ⟨rfl, hb4⟩; have K4 := hid (gt K3.out hb4); clear hb4)
    | (go_at_call 23; refine (C23.out _ K4.out).mono ?_; rintro e w5 ⟨rfl, hb5⟩; have K5 := hid (gt K4.out hb5); clear hb5)
    | (go_at_call 24; refine (C24.out _).mono ?_; rintro e w6 ⟨rfl, hb6⟩; have K6 := hid (gt K5.out hb6); clear hb6)
    | (go_at_call 18; refine (C18.out _ K6.out).mono ?_; rintro e w7 ⟨rfl, hb7⟩; have K7 := hid (gt K6.out hb7); clear hb7))
  go_ret
  exact ⟨rfl, K7.out⟩
end Go.Proofs.YtcneadohpbeahaaDoor
