/- What anti's families answer, put together; what its sets answer. -/
import Derived.Test.YteaajhpgmndomaaTim
namespace Go.Proofs.Yteaajhpgmndomaa
open Go.RowKit Fo
set_option maxRecDepth 100000

theorem fam_says : FamSays fun _ => True where
  keep := fun _ _ => trivial
  sub := fun w v1 v2 l m R _ h1 h2 hl hm hR => subset_all w v1 v2 l m R h1 h2 (by omega) (by omega) (by rw [← hR]; exact subB_iff)
  of := fun w v L _ h hl hn => of_any w v L h hl hn
  sets := fun w v F _ h => fsets_any w v F h
  has := fun w v s F S R _ h hs hl hR => has_any w v s F S R h hs hl hR
  len := fun w v F n _ h hn => len_any w v F n h hn
  plus := fun w v1 v2 F G R b _ h1 h2 hF hG hR => plus_any w v1 v2 F G R b h1 h2 hF hG hR
  times := fun w v1 v2 F G R b _ h1 h2 hF hG hR _ hs1 hs2 => times_any w v1 v2 F G R b h1 h2 hF hG hR hs1 hs2
  one := fun w _ => one_any w
  zero := fun w _ => zero_any w
theorem set_says : SetSays fun _ => True where
  keep := fun _ _ => trivial
  sub := fam_says.sub
  srt := fun w v l _ h hl => (sorted_all w v l h (by omega)).mono fun e w' ⟨⟨u, R, he, hs, hr, hb, hl, _⟩, hw⟩ => ⟨⟨u, R, he, hs.isL, hr, hb, hl⟩, hw⟩
  awake := fun w _ => awake_of fam_says w trivial
theorem sets_here (w : World) (va vb : Value) (A B : List Int) (h1 : IsL w va A) (h2 : IsL w vb B) :
    Calls Try.prog 7 #[va, vb] w fun e w' => e = .returned (.bool true) ∧ Below w.heap.size w w' := sets_all set_says w va vb A B h1 h2 trivial
end Go.Proofs.Yteaajhpgmndomaa
