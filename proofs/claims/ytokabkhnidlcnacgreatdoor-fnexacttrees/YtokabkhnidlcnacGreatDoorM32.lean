import Derived.Deep.RegionHeldLaw
import Derived.Test.YtokabkhnidlcnacGreatDoorM12
import Derived.Test.YtokabkhnidlcnacGreatDoorM16
import Derived.Test.YtokabkhnidlcnacGreatDoorM24
import Derived.Test.YtokabkhnidlcnacGreatDoorM25
import Derived.Test.YtokabkhnidlcnacGreatDoorM28
import Derived.Test.YtokabkhnidlcnacGreatDoorM31
namespace Go.Proofs.YtokabkhnidlcnacGreatDoor
set_option linter.unusedSimpArgs false
set_option linter.unusedVariables false
set_option maxHeartbeats 16000000
set_option maxRecDepth 100000
open Go.RowKit
def hL:ET -> List Int
 | .nil=>[]
 | .node _ _ _ l r=>hL l ++ hL r ++ [((1 + max (hT l) (hT r):Nat):Int)]
theorem zDu:∀ T:ET,(hL T).length = tsz T
 | .nil=>rfl
 | .node _ _ _ l r=>by simp [hL,tsz,zDu l,zDu r]; omega
theorem zET {a b:List Int} {i:Nat} (h:i < a.length):atI (a ++ b) i = atI a i:=by
 simp [atI,List.getD,List.getElem?_append,h]
theorem zEU {a b:List Int} {i:Nat} (h:a.length <= i):atI (a ++ b) i = atI b (i - a.length):=by
 simp [atI,List.getD,List.getElem?_append_right h]
theorem zJi {a b:List zD} {i:Nat} (h:i < a.length):atN (a ++ b) i = atN a i:=by
 simp [atN,List.getD,List.getElem?_append,h]
theorem zJj {a b:List zD} {i:Nat} (h:a.length <= i):atN (a ++ b) i = atN b (i - a.length):=by
 simp [atN,List.getD,List.getElem?_append_right h]
theorem zFl:∀ {T:ET},Sh T -> atI (hL T) (tsz T - 1) = (hT T:Int)
 | .nil,h=>h.elim
 | .node b o t l r,_=>by
  have e:tsz (.node b o t l r:ET) - 1 = (hL l ++ hL r).length:=by simp [tsz,zDu]
  rw [e]
  simp only [hL,hT]
  rw [zEU (Nat.le_refl _)]
  simp [atI]
def zNi (n:zD) (H:List Int) (s i:Nat):Prop:=
 (zAP n.k = 0 /\ atI H i = 1) \/ (zAP n.k = 1 /\ ∃ a,n.a = ((s + a:Nat):Int) /\ a < i /\ atI H i = atI H a + 1) \/
 (zAP n.k = 2 /\ ∃ a c,n.a = ((s + a:Nat):Int) /\ n.b = ((s + c:Nat):Int) /\ a < i /\ c < i /\ atI H i = max (atI H a) (atI H c) + 1)
theorem zNj:∀ (T:ET),Sh T -> ∀ (s i:Nat),i < tsz T -> zNi (atN (nd T s) i) (hL T) s i
 | .nil,h,_,_,_=>h.elim
 | .node b o t l r,h,s,i,hi=>by
  simp only [tsz] at hi
  have el:=zDu l
  have er:=zDu r
  have nl:=zAq l s
  have nr:=zAq r (s + tsz l)
  by_cases h1:i < tsz l
  ·have hsl:Sh l:=by
    rcases h.2 with ⟨_,rfl,_⟩ | ⟨_,hl,_⟩ | ⟨_,hl,_⟩
    ·simp [tsz] at h1
    ·exact hl
    ·exact hl
   have ih:=zNj l hsl s i h1
   have en:atN (nd (.node b o t l r) s) i = atN (nd l s) i:=by
    simp only [nd]; rw [List.append_assoc,zJi (by omega)]
   have eH:∀ k,k < tsz l -> atI (hL (.node b o t l r)) k = atI (hL l) k:=fun k hk=>by
    simp only [hL]; rw [List.append_assoc,zET (by omega)]
   unfold zNi
   rw [en]
   rcases ih with ⟨k0,e⟩ | ⟨k1,a,e1,e2,e3⟩ | ⟨k2,a,c,e1,e2,e3,e4,e5⟩
   ·exact Or.inl ⟨k0,by rw [eH i h1]; exact e⟩
   ·exact Or.inr (Or.inl ⟨k1,a,e1,e2,by rw [eH i h1,eH a (by omega)]; exact e3⟩)
   ·exact Or.inr (Or.inr ⟨k2,a,c,e1,e2,e3,e4,by rw [eH i h1,eH a (by omega),eH c (by omega)]; exact e5⟩)
  ·by_cases h2:i < tsz l + tsz r
   ·have hsr:Sh r:=by
     rcases h.2 with ⟨_,rfl,rfl⟩ | ⟨_,hl,rfl⟩ | ⟨_,_,hr⟩
     ·simp [tsz] at h2
     ·simp [tsz] at h2; omega
     ·exact hr
    have ih:=zNj r hsr (s + tsz l) (i - tsz l) (by omega)
    have en:atN (nd (.node b o t l r) s) i = atN (nd r (s + tsz l)) (i - tsz l):=by
     simp only [nd]; rw [List.append_assoc,zJj (by omega),nl,zJi (by omega)]
    have eH:∀ k,k < tsz r -> atI (hL (.node b o t l r)) (tsz l + k) = atI (hL r) k:=fun k hk=>by
     simp only [hL]; rw [List.append_assoc,zEU (by omega),el,zET (by omega)]; congr 1; omega
    have ei:i = tsz l + (i - tsz l):=by omega
    unfold zNi
    rw [en]
    rcases ih with ⟨k0,e⟩ | ⟨k1,a,e1,e2,e3⟩ | ⟨k2,a,c,e1,e2,e3,e4,e5⟩
    ·exact Or.inl ⟨k0,by rw [ei,eH _ (by omega)]; exact e⟩
    ·refine Or.inr (Or.inl ⟨k1,tsz l + a,by rw [e1]; congr 1; omega,by omega,?_⟩)
     conv=>lhs; rw [ei]
     rw [eH _ (by omega),eH a (by omega)]; exact e3
    ·refine Or.inr (Or.inr ⟨k2,tsz l + a,tsz l + c,by rw [e1]; congr 1; omega,by rw [e2]; congr 1; omega,by omega,by omega,?_⟩)
     conv=>lhs; rw [ei]
     rw [eH _ (by omega),eH a (by omega),eH c (by omega)]; exact e5
   ·have ei:i = tsz l + tsz r:=by omega
    have en:atN (nd (.node b o t l r) s) i = tN b t l r s:=by
     simp only [nd]; rw [zJj (by simp; omega)]
     have:i - (nd l s ++ nd r (s + tsz l)).length = 0:=by simp; omega
     rw [this]; rfl
    have eI:atI (hL (.node b o t l r)) i = ((1 + max (hT l) (hT r):Nat):Int):=by
     simp only [hL]; rw [zEU (by simp; omega)]
     have:i - (hL l ++ hL r).length = 0:=by simp; omega
     rw [this]; rfl
    unfold zNi
    rw [en,eI]
    rcases h.2 with ⟨k0,rfl,rfl⟩ | ⟨k1,hl,rfl⟩ | ⟨k2,hl,hr⟩
    ·exact Or.inl ⟨k0,rfl⟩
    ·have hp:=Sh.pos hl
     refine Or.inr (Or.inl ⟨k1,tsz l - 1,?_,by omega,?_⟩)
     ·simp only [tN,k1]
      rw [if_neg (by decide)]
      omega
     ·have e:atI (hL (.node b o t l .nil)) (tsz l - 1) = (hT l:Int):=by
       simp only [hL]; rw [List.append_assoc,zET (by omega)]; exact zFl hl
      rw [e]
      simp only [hT]
      omega
    ·have hp:=Sh.pos hl
     have hp2:=Sh.pos hr
     refine Or.inr (Or.inr ⟨k2,tsz l - 1,tsz l + tsz r - 1,?_,?_,by omega,by omega,?_⟩)
     ·simp only [tN,k2]
      rw [if_neg (by decide)]
      omega
     ·simp only [tN,k2]
      rw [if_pos trivial]
      omega
     ·have e:atI (hL (.node b o t l r)) (tsz l - 1) = (hT l:Int):=by
       simp only [hL]; rw [List.append_assoc,zET (by omega)]; exact zFl hl
      have e2:atI (hL (.node b o t l r)) (tsz l + tsz r - 1) = (hT r:Int):=by
       simp only [hL]; rw [List.append_assoc,zEU (by omega),el,zET (by omega)]
       have:tsz l + tsz r - 1 - tsz l = tsz r - 1:=by omega
       rw [this]
       exact zFl hr
      rw [e,e2]
      omega
theorem zIX {H:List Int} {k:Nat} (h:k < H.length):H.take (k + 1) = H.take k ++ [atI H k]:=by
 rw [List.take_add_one]
 simp [atI,List.getD,h]
theorem zJk {H:List Int} {i k:Nat} (h:i < k):atI (H.take k) i = atI H i:=by
 simp [atI,List.getD,List.getElem?_take,h]
theorem zIY (bn cn:Nat) (ns:List zD) (H:List Int) (w:World) (hw:zH8 w bn 0 ns) (hB:bn < w.heap.size) (hl:ns.length <= 100000) (h1:1 <= ns.length) (hH:H.length = ns.length) (hat:∀ i,i < ns.length -> zNi (atN ns i) H 0 i) (hbd:∀ i,i < ns.length -> 0 <= atI H i /\ atI H i <= 100000) :
  Calls Tryz.prog 54 #[.agg #[.slice (some ⟨bn,0,none⟩) ns.length cn]] w fun e w'=>e = .returned (.int .i64 (atI H (ns.length - 1))) /\ Below w.heap.size w w':=by
 obtain ⟨i0,hi0,hz0,hz1,hz2⟩:=info_parts zIW
 have HI0:=zB hi0
 have HZ0:=zB (And.intro hz0 (And.intro hz1 hz2))
 have HW:=zB hw
 have HAT:=zB hat
 have HBD:=zB hbd
 have HLN:=zB hH
 clear hi0 hz0 hz1 hz2 hw hat hbd hH
 have HO:=zB (show ((w.alloc (.cells #[.slice (some ⟨bn,0,none⟩) ns.length cn] 56)).alloc (.cells #[] 3)).ownsRow (w.heap.size + 1) 3 1 (.slice (some ⟨w.heap.size + 1,0,none⟩) 0 0) 0 (zf []) by
  have h0:=World.ownsRow_lit (base:=w.heap.size + 1) (e:=3) (size:=1) (w.alloc (.cells #[.slice (some ⟨bn,0,none⟩) ns.length cn] 56)) #[] 0 (by simp) (Nat.zero_le _) rfl
  simpa [zf] using h0)
 have hb0:Below (w.heap.size + 1) (w.alloc (.cells #[.slice (some ⟨bn,0,none⟩) ns.length cn] 56)) ((w.alloc (.cells #[.slice (some ⟨bn,0,none⟩) ns.length cn] 56)).alloc (.cells #[] 3)):=(zC _ _).mono (by simp)
 go_enter Tryz.func54,Tryz.ntmps54
 go_wp2_with fail
 go_loopw [3,4] (fun hv iv wr=>∃ (k go co:Nat),k <= ns.length /\ iv = .int .i64 (k:Int) /\ hv = .slice (some ⟨go,0,none⟩) k co /\ Hid (wr.ownsRow (w.heap.size + 1) 3 1 (.slice (some ⟨go,0,none⟩) k co) k (zf (H.take k))) /\ Hid (Below (w.heap.size + 1) (w.alloc (.cells #[.slice (some ⟨bn,0,none⟩) ns.length cn] 56)) wr) /\ w.heap.size + 1 < wr.heap.size) (fun _ iv _=>ns.length - (intOf iv).toNat)
 case atStart=>exact ⟨0,w.heap.size + 1,0,Nat.zero_le _,rfl,rfl,HO,zB hb0,by simp⟩
 case round=>
  clear HO hb0
  obtain ⟨k,go,co,hk,rfl,rfl,hown,hbel,hz⟩:=hrel
  have tc:wr.cell? ⟨w.heap.size,0,none⟩ = some (.slice (some ⟨bn,0,none⟩) ns.length cn):=by
   rw [(zA hbel).cell (p:=⟨w.heap.size,0,none⟩) (show w.heap.size < _ by omega)]; simp [go_sem]
  have hbw:Below w.heap.size w wr:=(zC _ _).trans ((zA hbel).mono (by omega))
  have HFI:=zB (show zEL wr go (H.take k) (H.take k).length by
   have hlk:(H.take k).length = k:=by rw [List.length_take,zA HLN]; omega
   have ho:=zA hown
   refine (zCv (base:=w.heap.size + 1) (cap:=co) (e:=3) ?_).2
   rw [hlk]; exact ho)
  have hlk:(H.take k).length = k:=by rw [List.length_take,zA HLN]; omega
  have HLK:=zB hlk
  have hgo:=(zA hown).lt go rfl
  have HGO:=zB hgo
  by_cases hlt:k < ns.length
  ·have hltI:(k:Int) < (ns.length:Int):=by omega
   obtain ⟨a0,a1,a2,a3⟩:=((zA HW) k hlt).below hbw hB
   rw [Nat.zero_add] at a0 a1 a2 a3
   have hb1:=(zA HBD) k hlt
   have hbn:bn < wr.heap.size:=by have:=hbw.size; omega
   have HTK:=zB (zIX (H:=H) (k:=k) (by rw [zA HLN]; exact hlt))
   have HCL:=zB (show ∀ i,i < k -> wr.cell? ⟨go,i,none⟩ = some (.int .i64 (atI H i)) from fun i hi=>by
    have:=(zA HFI).2.2 i (by rw [zA HLK]; exact hi)
    rw [this,zJk hi])
   rcases (zA HAT) k hlt with ⟨k0,e⟩ | ⟨k1,a,e1,e2,e3⟩ | ⟨k2,a,c,e1,e2,e3,e4,e5⟩
   ·have HKK:=zB k0
    have HVE:=zB e
    clear k0 e
    go_wp2_with (first | (go_at_call 89; refine (zBZ (zA HKK) 0 rfl _).mono ?_; rintro e w' ⟨rfl,hx⟩; obtain rfl:=hx.symm) | (at_builtin; refine wpList_append_own _ rfl (.tmp 47) (.tmp 50) 83 rfl (w.heap.size + 1) 3 i0 _ 1 8 Tryz.underlying83 (zA HI0) (zA HZ0).1 (zA HZ0).2.1 (zA HZ0).2.2 rfl (by decide) _ k (zf (H.take k)) rfl (((zA hown).alloc _).alloc _) ⟨wr.heap.size + 1,0,none⟩ 1 1 (zf [1]) rfl rfl (by simpa using zCW (wr.alloc (.cells #[.int .i64 (atN ns k).k,.string (atN ns k).t,.int .i64 (atN ns k).a,.int .i64 (atN ns k).b] 123)) (1)) (zA1 _) ?b1 ?b2 ?b3 ?next))
    case b1=>unfold maxLen; omega
    case b2=>omega
    case b3=>simp; omega
    case next=>
     intro v4 w4 hown4 hgrow4 hnil4
     have hbel4:Below (w.heap.size + 1) (w.alloc (.cells #[.slice (some ⟨bn,0,none⟩) ns.length cn] 56)) w4:=(((zA hbel).alloc (by omega) _).alloc (by simp; omega) _).grown hgrow4 (by simp; omega) (fun q hq=>by have:=(zA HGO).1; simp [Value.ownBlock] at hq; omega)
     have z4:w.heap.size + 1 < w4.heap.size:=by have:=hgrow4.size; simp at this; omega
     obtain ⟨g4,c4,rfl⟩:=ZF hown4 (by simp [hnil4])
     rw [<- Z6,<- zA HVE,<- zA HTK] at hown4
     have HO4:=zB hown4
     have HB4:=zB hbel4
     clear hown4 hgrow4 hnil4 hbel4
     go_wp2_with fail
     exact ⟨⟨k + 1,g4,c4,by omega,by go_num,rfl,HO4,HB4,z4⟩,by simp [intOf]; omega⟩
   ·have HKK:=zB k1
    have HVE:=zB e3
    rw [Nat.zero_add] at e1
    have ca:=(zA HCL) a e2
    have hgl:go < wr.heap.size:=(zA HGO).2
    have hgn:go ≠ wr.heap.size:=by omega
    have hba:=(zA HBD) a (by omega)
    obtain ⟨hba1,hba2⟩:=hba
    have haI:(a:Int) < (k:Int):=by omega
    rw [e1] at a2
    clear k1 e3 e1
    go_wp2_with (first | (go_at_call 89; refine (zBZ (zA HKK) 1 rfl _).mono ?_; rintro e w' ⟨rfl,hx⟩; obtain rfl:=hx.symm) | (at_builtin; refine wpList_append_own _ rfl (.tmp 47) (.tmp 50) 83 rfl (w.heap.size + 1) 3 i0 _ 1 8 Tryz.underlying83 (zA HI0) (zA HZ0).1 (zA HZ0).2.1 (zA HZ0).2.2 rfl (by decide) _ k (zf (H.take k)) rfl (((zA hown).alloc _).alloc _) ⟨wr.heap.size + 1,0,none⟩ 1 1 (zf [atI H a + 1]) rfl rfl (by simpa using zCW (wr.alloc (.cells #[.int .i64 (atN ns k).k,.string (atN ns k).t,.int .i64 (a:Int),.int .i64 (atN ns k).b] 123)) (atI H a + 1)) (zA1 _) ?b1 ?b2 ?b3 ?next))
    case b1=>unfold maxLen; omega
    case b2=>omega
    case b3=>simp; omega
    case next=>
     intro v4 w4 hown4 hgrow4 hnil4
     have hbel4:Below (w.heap.size + 1) (w.alloc (.cells #[.slice (some ⟨bn,0,none⟩) ns.length cn] 56)) w4:=(((zA hbel).alloc (by omega) _).alloc (by simp; omega) _).grown hgrow4 (by simp; omega) (fun q hq=>by have:=(zA HGO).1; simp [Value.ownBlock] at hq; omega)
     have z4:w.heap.size + 1 < w4.heap.size:=by have:=hgrow4.size; simp at this; omega
     obtain ⟨g4,c4,rfl⟩:=ZF hown4 (by simp [hnil4])
     rw [<- Z6,<- zA HVE,<- zA HTK] at hown4
     have HO4:=zB hown4
     have HB4:=zB hbel4
     clear hown4 hgrow4 hnil4 hbel4
     go_wp2_with fail
     exact ⟨⟨k + 1,g4,c4,by omega,by go_num,rfl,HO4,HB4,z4⟩,by simp [intOf]; omega⟩
   ·have HKK:=zB k2
    rw [Nat.zero_add] at e1 e2
    have ca:=(zA HCL) a e3
    have cc:=(zA HCL) c e4
    have hgl:go < wr.heap.size:=(zA HGO).2
    have hgn:go ≠ wr.heap.size:=by omega
    obtain ⟨hba1,hba2⟩:=(zA HBD) a (by omega)
    obtain ⟨hbc1,hbc2⟩:=(zA HBD) c (by omega)
    have haI:(a:Int) < (k:Int):=by omega
    have hcI:(c:Int) < (k:Int):=by omega
    rw [e1] at a2
    rw [e2] at a3
    by_cases hg:atI H a < atI H c
    ·have HVE:=zB (show atI H k = atI H c + 1 by omega)
     clear k2 e5 e1 e2 hb1
     go_wp2_with (first | (go_at_call 89; refine (zBZ (zA HKK) 2 rfl _).mono ?_; rintro e w' ⟨rfl,hx⟩; obtain rfl:=hx.symm) | (at_builtin; refine wpList_append_own _ rfl (.tmp 47) (.tmp 50) 83 rfl (w.heap.size + 1) 3 i0 _ 1 8 Tryz.underlying83 (zA HI0) (zA HZ0).1 (zA HZ0).2.1 (zA HZ0).2.2 rfl (by decide) _ k (zf (H.take k)) rfl (((zA hown).alloc _).alloc _) ⟨wr.heap.size + 1,0,none⟩ 1 1 (zf [atI H c + 1]) rfl rfl (by simpa using zCW (wr.alloc (.cells #[.int .i64 (atN ns k).k,.string (atN ns k).t,.int .i64 (a:Int),.int .i64 (c:Int)] 123)) (atI H c + 1)) (zA1 _) ?b1 ?b2 ?b3 ?next))
     case b1=>unfold maxLen; omega
     case b2=>omega
     case b3=>simp; omega
     case next=>
      intro v4 w4 hown4 hgrow4 hnil4
      have hbel4:Below (w.heap.size + 1) (w.alloc (.cells #[.slice (some ⟨bn,0,none⟩) ns.length cn] 56)) w4:=(((zA hbel).alloc (by omega) _).alloc (by simp; omega) _).grown hgrow4 (by simp; omega) (fun q hq=>by have:=(zA HGO).1; simp [Value.ownBlock] at hq; omega)
      have z4:w.heap.size + 1 < w4.heap.size:=by have:=hgrow4.size; simp at this; omega
      obtain ⟨g4,c4,rfl⟩:=ZF hown4 (by simp [hnil4])
      rw [<- Z6,<- zA HVE,<- zA HTK] at hown4
      have HO4:=zB hown4
      have HB4:=zB hbel4
      clear hown4 hgrow4 hnil4 hbel4
      go_wp2_with fail
      exact ⟨⟨k + 1,g4,c4,by omega,by go_num,rfl,HO4,HB4,z4⟩,by simp [intOf]; omega⟩
    ·have HVE:=zB (show atI H k = atI H a + 1 by omega)
     clear k2 e5 e1 e2 hb1
     go_wp2_with (first | (go_at_call 89; refine (zBZ (zA HKK) 2 rfl _).mono ?_; rintro e w' ⟨rfl,hx⟩; obtain rfl:=hx.symm) | (at_builtin; refine wpList_append_own _ rfl (.tmp 47) (.tmp 50) 83 rfl (w.heap.size + 1) 3 i0 _ 1 8 Tryz.underlying83 (zA HI0) (zA HZ0).1 (zA HZ0).2.1 (zA HZ0).2.2 rfl (by decide) _ k (zf (H.take k)) rfl (((zA hown).alloc _).alloc _) ⟨wr.heap.size + 1,0,none⟩ 1 1 (zf [atI H a + 1]) rfl rfl (by simpa using zCW (wr.alloc (.cells #[.int .i64 (atN ns k).k,.string (atN ns k).t,.int .i64 (a:Int),.int .i64 (c:Int)] 123)) (atI H a + 1)) (zA1 _) ?b1 ?b2 ?b3 ?next))
     case b1=>unfold maxLen; omega
     case b2=>omega
     case b3=>simp; omega
     case next=>
      intro v4 w4 hown4 hgrow4 hnil4
      have hbel4:Below (w.heap.size + 1) (w.alloc (.cells #[.slice (some ⟨bn,0,none⟩) ns.length cn] 56)) w4:=(((zA hbel).alloc (by omega) _).alloc (by simp; omega) _).grown hgrow4 (by simp; omega) (fun q hq=>by have:=(zA HGO).1; simp [Value.ownBlock] at hq; omega)
      have z4:w.heap.size + 1 < w4.heap.size:=by have:=hgrow4.size; simp at this; omega
      obtain ⟨g4,c4,rfl⟩:=ZF hown4 (by simp [hnil4])
      rw [<- Z6,<- zA HVE,<- zA HTK] at hown4
      have HO4:=zB hown4
      have HB4:=zB hbel4
      clear hown4 hgrow4 hnil4 hbel4
      go_wp2_with fail
      exact ⟨⟨k + 1,g4,c4,by omega,by go_num,rfl,HO4,HB4,z4⟩,by simp [intOf]; omega⟩
  ·have hltI:¬ (k:Int) < (ns.length:Int):=by omega
   have e:k = ns.length:=by omega
   subst e
   have hlast:=(zA HFI).2.2 (ns.length - 1) (by rw [zA HLK]; omega)
   rw [zJk (by omega)] at hlast
   have ec:((ns.length:Int) - 1) = ((ns.length - 1:Nat):Int):=by omega
   have hs1:((ns.length:Int) - 1) < (ns.length:Int):=by omega
   have hs0:(0:Int) <= (ns.length:Int) - 1:=by omega
   have et:((ns.length:Int) - 1).toNat = ns.length - 1:=by omega
   go_wp2_with fail
   go_ret
   exact ⟨rfl,hbw⟩
end Go.Proofs.YtokabkhnidlcnacGreatDoor
namespace Go.Proofs.YtokabkhnidlcnacGreatDoor
set_option linter.unusedSimpArgs false
set_option linter.unusedVariables false
set_option maxHeartbeats 16000000
set_option maxRecDepth 100000
open Go.RowKit Go.Maps
def zLd (w0 w:World) (K:FuncId) (p:Nat) (q:OpR) (x:Value):Prop:=
 ∃ ba bp bh,x = .func (.func K) #[] #[.pointer (some ⟨ba,0,none⟩),.pointer (some ⟨bp,0,none⟩),.pointer (some ⟨bh,0,none⟩)] /\ w0.heap.size <= ba /\ w0.heap.size <= bp /\ w0.heap.size <= bh /\
  OpC w ba q /\ w.cell? ⟨bp,0,none⟩ = some (.pointer (some ⟨p,0,none⟩)) /\ w.cell? ⟨bh,0,none⟩ = some (.int .i64 (ZJ q.s q.k q.l q.sd false))
theorem zGk (p:Nat) (q:OpR) (w:World) (hs:q.s.size <= maxLen) :
  Calls Tryz.prog 153 #[.pointer (some ⟨p,0,none⟩),.agg #[.string q.s,.int .i64 q.k,.int .i64 q.l,.int .i64 q.sd]] w fun x w'=>(∃ v,x = .returned v /\ Hid (zLd w w' 191 p q v)) /\ Below w.heap.size w w':=by
 obtain ⟨W,hW⟩:∃ W,W = (w.alloc (.cells #[.pointer (some ⟨p,0,none⟩)] 172)).alloc (.cells #[.string q.s,.int .i64 q.k,.int .i64 q.l,.int .i64 q.sd] 41):=⟨_,rfl⟩
 have hWz:W.heap.size = w.heap.size + 2:=by rw [hW]; simp
 have bel0:Below w.heap.size w W:=by rw [hW]; exact (zC _ _).alloc (by simp) _
 have g0:W.cell? ⟨w.heap.size,0,none⟩ = some (.pointer (some ⟨p,0,none⟩)):=by rw [hW]; simp [go_sem]
 have g1:OpC W (w.heap.size + 1) q:=by rw [hW]; exact ⟨by simp [go_sem],by simp [go_sem],by simp [go_sem],by simp [go_sem]⟩
 have HX:=zCo q.s q.k q.l q.sd false W hs
 have HG:=zB (And.intro g0 g1)
 have HZ:=zB hWz
 have HB:=zB bel0
 rw [hW] at HX
 have HW:=zB hW
 clear g0 g1 hWz bel0 hW
 go_enter Tryz.func153,Tryz.ntmps153
 go_wp2_with fail
 refine HX.mono ?_
 rw [<- zA HW]
 rintro x w1 ⟨rfl,hb1⟩
 have hz1:w.heap.size + 2 <= w1.heap.size:=by have:=hb1.size; rw [zA HZ] at this; exact this
 have bel1:Below w.heap.size w (w1.alloc (.cells #[.int .i64 (ZJ q.s q.k q.l q.sd false)] 3)):=((zA HB).trans (hb1.mono (zA HB).size)).alloc (by omega) _
 have l0:w.heap.size < W.heap.size:=by rw [zA HZ]; omega
 have l1:w.heap.size + 1 < W.heap.size:=by rw [zA HZ]; omega
 have r0:(w1.alloc (.cells #[.int .i64 (ZJ q.s q.k q.l q.sd false)] 3)).cell? ⟨w.heap.size,0,none⟩ = some (.pointer (some ⟨p,0,none⟩)):=((zC _ _).cell (p:=⟨w.heap.size,0,none⟩) (by simp only; omega)).trans ((hb1.cell (p:=⟨w.heap.size,0,none⟩) l0).trans (zA HG).1)
 have r1:OpC (w1.alloc (.cells #[.int .i64 (ZJ q.s q.k q.l q.sd false)] 3)) (w.heap.size + 1) q:=((zA HG).2.kept (zI.of_below (g:=W.heap.size) hb1) (by omega)).kept (zI.of_below (g:=W.heap.size) (zC _ _)) (by omega)
 have r2:(w1.alloc (.cells #[.int .i64 (ZJ q.s q.k q.l q.sd false)] 3)).cell? ⟨w1.heap.size,0,none⟩ = some (.int .i64 (ZJ q.s q.k q.l q.sd false)):=by simp [go_sem]
 have HEND:=zB (show zLd w (w1.alloc (.cells #[.int .i64 (ZJ q.s q.k q.l q.sd false)] 3)) 191 p q (.func (.func 191) #[] #[.pointer (some ⟨w.heap.size + 1,0,none⟩),.pointer (some ⟨w.heap.size,0,none⟩),.pointer (some ⟨w1.heap.size,0,none⟩)]) from ⟨_,_,_,rfl,by omega,by omega,by omega,r1,r0,r2⟩)
 clear r0 r1 r2 l0 l1 HX HG HZ HB hb1 hz1
 go_wp2_with fail
 go_ret
 exact ⟨⟨_,rfl,HEND⟩,bel1⟩
theorem zFX (p:Nat) (q:OpR) (w:World) (hs:q.s.size <= maxLen) :
  Calls Tryz.prog 155 #[.pointer (some ⟨p,0,none⟩),.agg #[.string q.s,.int .i64 q.k,.int .i64 q.l,.int .i64 q.sd]] w fun x w'=>(∃ v,x = .returned v /\ Hid (zLd w w' 194 p q v)) /\ Below w.heap.size w w':=by
 obtain ⟨W,hW⟩:∃ W,W = (w.alloc (.cells #[.pointer (some ⟨p,0,none⟩)] 172)).alloc (.cells #[.string q.s,.int .i64 q.k,.int .i64 q.l,.int .i64 q.sd] 41):=⟨_,rfl⟩
 have hWz:W.heap.size = w.heap.size + 2:=by rw [hW]; simp
 have bel0:Below w.heap.size w W:=by rw [hW]; exact (zC _ _).alloc (by simp) _
 have g0:W.cell? ⟨w.heap.size,0,none⟩ = some (.pointer (some ⟨p,0,none⟩)):=by rw [hW]; simp [go_sem]
 have g1:OpC W (w.heap.size + 1) q:=by rw [hW]; exact ⟨by simp [go_sem],by simp [go_sem],by simp [go_sem],by simp [go_sem]⟩
 have HX:=zCo q.s q.k q.l q.sd false W hs
 have HG:=zB (And.intro g0 g1)
 have HZ:=zB hWz
 have HB:=zB bel0
 rw [hW] at HX
 have HW:=zB hW
 clear g0 g1 hWz bel0 hW
 go_enter Tryz.func155,Tryz.ntmps155
 go_wp2_with fail
 refine HX.mono ?_
 rw [<- zA HW]
 rintro x w1 ⟨rfl,hb1⟩
 have hz1:w.heap.size + 2 <= w1.heap.size:=by have:=hb1.size; rw [zA HZ] at this; exact this
 have bel1:Below w.heap.size w (w1.alloc (.cells #[.int .i64 (ZJ q.s q.k q.l q.sd false)] 3)):=((zA HB).trans (hb1.mono (zA HB).size)).alloc (by omega) _
 have l0:w.heap.size < W.heap.size:=by rw [zA HZ]; omega
 have l1:w.heap.size + 1 < W.heap.size:=by rw [zA HZ]; omega
 have r0:(w1.alloc (.cells #[.int .i64 (ZJ q.s q.k q.l q.sd false)] 3)).cell? ⟨w.heap.size,0,none⟩ = some (.pointer (some ⟨p,0,none⟩)):=((zC _ _).cell (p:=⟨w.heap.size,0,none⟩) (by simp only; omega)).trans ((hb1.cell (p:=⟨w.heap.size,0,none⟩) l0).trans (zA HG).1)
 have r1:OpC (w1.alloc (.cells #[.int .i64 (ZJ q.s q.k q.l q.sd false)] 3)) (w.heap.size + 1) q:=((zA HG).2.kept (zI.of_below (g:=W.heap.size) hb1) (by omega)).kept (zI.of_below (g:=W.heap.size) (zC _ _)) (by omega)
 have r2:(w1.alloc (.cells #[.int .i64 (ZJ q.s q.k q.l q.sd false)] 3)).cell? ⟨w1.heap.size,0,none⟩ = some (.int .i64 (ZJ q.s q.k q.l q.sd false)):=by simp [go_sem]
 have HEND:=zB (show zLd w (w1.alloc (.cells #[.int .i64 (ZJ q.s q.k q.l q.sd false)] 3)) 194 p q (.func (.func 194) #[] #[.pointer (some ⟨w.heap.size + 1,0,none⟩),.pointer (some ⟨w.heap.size,0,none⟩),.pointer (some ⟨w1.heap.size,0,none⟩)]) from ⟨_,_,_,rfl,by omega,by omega,by omega,r1,r0,r2⟩)
 clear r0 r1 r2 l0 l1 HX HG HZ HB hb1 hz1
 go_wp2_with fail
 go_ret
 exact ⟨⟨_,rfl,HEND⟩,bel1⟩
def zCC (lo:Nat) (w:World) (K:FuncId) (p:Nat) (q:OpR) (x:Value):Prop:=
 ∃ ba bp bh,x = .func (.func K) #[] #[.pointer (some ⟨ba,0,none⟩),.pointer (some ⟨bp,0,none⟩),.pointer (some ⟨bh,0,none⟩)] /\ lo <= ba /\ lo <= bp /\ lo <= bh /\
  OpC w ba q /\ w.cell? ⟨bp,0,none⟩ = some (.pointer (some ⟨p,0,none⟩)) /\ w.cell? ⟨bh,0,none⟩ = some (.int .i64 (ZJ q.s q.k q.l q.sd false))
def zDJ (lo:Nat) (w:World) (K:FuncId) (p:Nat) (q:OpR) (x:Value):Prop:=
 ∃ ba bp bh bs,x = .func (.func K) #[] #[.pointer (some ⟨ba,0,none⟩),.pointer (some ⟨bp,0,none⟩),.pointer (some ⟨bh,0,none⟩),.pointer (some ⟨bs,0,none⟩)] /\ lo <= ba /\ lo <= bp /\ lo <= bh /\ lo <= bs /\
  OpC w ba q /\ w.cell? ⟨bp,0,none⟩ = some (.pointer (some ⟨p,0,none⟩)) /\ w.cell? ⟨bh,0,none⟩ = some (.int .i64 (ZJ q.s q.k q.l q.sd false)) /\ w.cell? ⟨bs,0,none⟩ = some (.int .i64 (ZJ q.s q.k q.l q.sd true))
theorem zCC.kept {lo:Nat} {w w':World} {K:FuncId} {p g:Nat} {q:OpR} {x:Value} (h:zCC lo w K p q x) (hk:zI w w' g) (hg:g < lo):zCC lo w' K p q x:=by
 obtain ⟨ba,bp,bh,h0,n1,n2,n3,h1,h2,h3⟩:=h
 exact ⟨ba,bp,bh,h0,n1,n2,n3,h1.kept hk (by omega),(hk.cell (b:=bp) (block_lt_of_cell h2) (by omega) 0).trans h2,(hk.cell (b:=bh) (block_lt_of_cell h3) (by omega) 0).trans h3⟩
theorem zDJ.kept {lo:Nat} {w w':World} {K:FuncId} {p g:Nat} {q:OpR} {x:Value} (h:zDJ lo w K p q x) (hk:zI w w' g) (hg:g < lo):zDJ lo w' K p q x:=by
 obtain ⟨ba,bp,bh,bs,h0,n1,n2,n3,n4,h1,h2,h3,h4⟩:=h
 exact ⟨ba,bp,bh,bs,h0,n1,n2,n3,n4,h1.kept hk (by omega),(hk.cell (b:=bp) (block_lt_of_cell h2) (by omega) 0).trans h2,(hk.cell (b:=bh) (block_lt_of_cell h3) (by omega) 0).trans h3,(hk.cell (b:=bs) (block_lt_of_cell h4) (by omega) 0).trans h4⟩
theorem zCC.low {lo lo':Nat} {w:World} {K:FuncId} {p:Nat} {q:OpR} {x:Value} (h:zCC lo w K p q x) (hl:lo' <= lo):zCC lo' w K p q x:=by
 obtain ⟨ba,bp,bh,h0,n1,n2,n3,h1,h2,h3⟩:=h
 exact ⟨ba,bp,bh,h0,by omega,by omega,by omega,h1,h2,h3⟩
theorem zDJ.low {lo lo':Nat} {w:World} {K:FuncId} {p:Nat} {q:OpR} {x:Value} (h:zDJ lo w K p q x) (hl:lo' <= lo):zDJ lo' w K p q x:=by
 obtain ⟨ba,bp,bh,bs,h0,n1,n2,n3,n4,h1,h2,h3,h4⟩:=h
 exact ⟨ba,bp,bh,bs,h0,by omega,by omega,by omega,by omega,h1,h2,h3,h4⟩
def BfD (lo:Nat) (w:World) (p:Nat) (ns:List OpR) (dn:ByteArray -> Int -> Bool) (G:ByteArray -> Option Value):Prop:=
 G opn = some (.func (.func 152) #[.pointer (some ⟨p,0,none⟩)] #[]) /\
 ∀ t,t ≠ opn -> (dn t 1 = false -> G t = none) /\ (dn t 1 = true -> ∃ v,G t = some v /\ zCC lo w 191 p (opA ns (rt 3 t)) v)
def BbD (lo:Nat) (w:World) (p:Nat) (ns:List OpR) (dn:ByteArray -> Int -> Bool) (G:ByteArray -> Option Value):Prop:=
 ∀ t,(dn t 2 = false -> dn t 3 = false -> G t = none) /\
 (dn t 2 = true -> ∃ v,G t = some v /\ zDJ lo w 192 p (opA ns (rt 4 t)) v) /\
 (dn t 3 = true -> ∃ v,G t = some v /\ zCC lo w 194 p (opA ns (rt 5 t)) v)
theorem BfD.kept {lo:Nat} {w w':World} {p g:Nat} {ns:List OpR} {dn:ByteArray -> Int -> Bool} {G:ByteArray -> Option Value} (h:BfD lo w p ns dn G) (hk:zI w w' g) (hg:g < lo):BfD lo w' p ns dn G:=
 ⟨h.1,fun t ht=>⟨(h.2 t ht).1,fun hb=>by obtain ⟨v,h1,h2⟩:=(h.2 t ht).2 hb; exact ⟨v,h1,h2.kept hk hg⟩⟩⟩
theorem BbD.kept {lo:Nat} {w w':World} {p g:Nat} {ns:List OpR} {dn:ByteArray -> Int -> Bool} {G:ByteArray -> Option Value} (h:BbD lo w p ns dn G) (hk:zI w w' g) (hg:g < lo):BbD lo w' p ns dn G:=
 fun t=>⟨(h t).1,fun hb=>by obtain ⟨v,h1,h2⟩:=(h t).2.1 hb; exact ⟨v,h1,h2.kept hk hg⟩,fun hb=>by obtain ⟨v,h1,h2⟩:=(h t).2.2 hb; exact ⟨v,h1,h2.kept hk hg⟩⟩
theorem zCX {s t:ByteArray} (h:s.data = t.data):s = t:=by cases s; cases t; simp at h; rw [h]
def zEV (dn dn':ByteArray -> Int -> Bool) (s:ByteArray) (kd:Int):Prop:=∀ t k,dn' t k = true ↔ dn t k = true \/ (t = s /\ k = kd)
theorem zEV.other {dn dn':ByteArray -> Int -> Bool} {s:ByteArray} {kd:Int} (h:zEV dn dn' s kd) {t:ByteArray} {k:Int} (hn:¬ (t = s /\ k = kd)):dn' t k = dn t k:=by
 have:=h t k
 cases a:dn' t k <;> cases b:dn t k <;> simp [a,b,hn] at this ⊢
 all_goals exact absurd this (by simp [hn])
theorem BfD.keep {lo:Nat} {w:World} {p:Nat} {ns:List OpR} {dn dn':ByteArray -> Int -> Bool} {G:ByteArray -> Option Value} {s:ByteArray} {kd:Int} (h:BfD lo w p ns dn G) (hm:zEV dn dn' s kd) (hk:kd ≠ 1):BfD lo w p ns dn' G:=
 ⟨h.1,fun t ht=>by rw [hm.other (fun e=>hk e.2.symm)]; exact h.2 t ht⟩
theorem BbD.keep {lo:Nat} {w:World} {p:Nat} {ns:List OpR} {dn dn':ByteArray -> Int -> Bool} {G:ByteArray -> Option Value} {s:ByteArray} {kd:Int} (h:BbD lo w p ns dn G) (hm:zEV dn dn' s kd) (hk:kd = 1):BbD lo w p ns dn' G:=
 fun t=>by rw [hm.other (fun e=>by omega),hm.other (fun e=>by omega)]; exact h t
theorem BfD.put {lo:Nat} {w:World} {p:Nat} {ns:List OpR} {dn dn':ByteArray -> Int -> Bool} {G:ByteArray -> Option Value} {s:ByteArray} {v:Value} (h:BfD lo w p ns dn G) (hm:zEV dn dn' s 1) (hs:s ≠ opn) (hv:zCC lo w 191 p (opA ns (rt 3 s)) v) :
  BfD lo w p ns dn' (fun t'=>if t'.data = s.data then some v else G t'):=by
 refine ⟨?_,fun t ht=>?_⟩
 ·simp only
  rw [if_neg (fun e=>hs (zCX e).symm)]
  exact h.1
 ·by_cases e:t = s
  ·subst e
   refine ⟨fun hf=>?_,fun _=>⟨v,if_pos rfl,hv⟩⟩
   rw [(hm t 1).2 (Or.inr ⟨rfl,rfl⟩)] at hf
   cases hf
  ·simp only
   rw [if_neg (fun x=>e (zCX x)),hm.other (fun x=>e x.1)]
   exact h.2 t ht
theorem BbD.put2 {lo:Nat} {w:World} {p:Nat} {ns:List OpR} {dn dn':ByteArray -> Int -> Bool} {G:ByteArray -> Option Value} {s:ByteArray} {v:Value} (h:BbD lo w p ns dn G) (hm:zEV dn dn' s 2) (h3:dn s 3 = false) (hv:zDJ lo w 192 p (opA ns (rt 4 s)) v) :
  BbD lo w p ns dn' (fun t'=>if t'.data = s.data then some v else G t'):=by
 intro t
 by_cases e:t = s
 ·subst e
  refine ⟨fun hf=>?_,fun _=>⟨v,if_pos rfl,hv⟩,fun hf=>?_⟩
  ·rw [(hm t 2).2 (Or.inr ⟨rfl,rfl⟩)] at hf
   cases hf
  ·rw [hm.other (fun x=>by omega),h3] at hf
   cases hf
 ·simp only
  rw [if_neg (fun x=>e (zCX x)),hm.other (fun x=>e x.1),hm.other (fun x=>e x.1)]
  exact h t
theorem BbD.put3 {lo:Nat} {w:World} {p:Nat} {ns:List OpR} {dn dn':ByteArray -> Int -> Bool} {G:ByteArray -> Option Value} {s:ByteArray} {v:Value} (h:BbD lo w p ns dn G) (hm:zEV dn dn' s 3) (h2:dn s 2 = false) (hv:zCC lo w 194 p (opA ns (rt 5 s)) v) :
  BbD lo w p ns dn' (fun t'=>if t'.data = s.data then some v else G t'):=by
 intro t
 by_cases e:t = s
 ·subst e
  refine ⟨fun _ hf=>?_,fun hf=>?_,fun _=>⟨v,if_pos rfl,hv⟩⟩
  ·rw [(hm t 3).2 (Or.inr ⟨rfl,rfl⟩)] at hf
   cases hf
  ·rw [hm.other (fun x=>by omega),h2] at hf
   cases hf
 ·simp only
  rw [if_neg (fun x=>e (zCX x)),hm.other (fun x=>e x.1),hm.other (fun x=>e x.1)]
  exact h t
theorem zDX {ns:List OpR} {t:ByteArray} {q:Nat} {k:Int} (h:zZ ns t k = true) (hq:(q:Int) - 2 = k) (b:Bool):ZJ (opA ns (rt q t)).s (opA ns (rt q t)).k (opA ns (rt q t)).l (opA ns (rt q t)).sd b = sH ns (q,t) b:=by
 have hk:=zCs h hq
 unfold knB at hk
 unfold sH zLK opA
 simp only [rt] at hk ⊢
 cases hf:fnd ns t ((q:Int) - 2) with
 | none=>rw [hf] at hk; cases hk
 | some j=>rfl
theorem BfD.ok {lo:Nat} {w:World} {p:Nat} {ns:List OpR} {G:ByteArray -> Option Value} (h:BfD lo w p ns (zZ ns) G) (hp:p < lo):zNc w p ns G:=by
 refine ⟨h.1,fun t ht=>⟨(h.2 t ht).1,fun hb=>?_⟩⟩
 obtain ⟨v,h1,ba,bp,bh,rfl,n1,n2,n3,c1,c2,c3⟩:=(h.2 t ht).2 hb
 rw [zDX hb (by decide)] at c3
 exact ⟨ba,bp,bh,h1,by omega,by omega,by omega,c1,c2,c3⟩
theorem BbD.ok {lo:Nat} {w:World} {p:Nat} {ns:List OpR} {G:ByteArray -> Option Value} (h:BbD lo w p ns (zZ ns) G) (hp:p < lo):zNd w p ns G:=by
 intro t
 refine ⟨fun hn=>(h t).1 ?_ ?_,fun hb=>?_,fun hb=>?_⟩
 ·cases e:zZ ns t 2 with
  | false=>rfl
  | true=>obtain ⟨j,hj,e1,_⟩:=(ZD _ _ _).1 e; exact absurd ⟨j,hj,e1⟩ hn
 ·cases e:zZ ns t 3 with
  | false=>rfl
  | true=>obtain ⟨j,hj,e1,_⟩:=(ZD _ _ _).1 e; exact absurd ⟨j,hj,e1⟩ hn
 ·obtain ⟨v,h1,ba,bp,bh,bs,rfl,n1,n2,n3,n4,c1,c2,c3,c4⟩:=(h t).2.1 hb
  rw [zDX hb (by decide)] at c3
  rw [zDX hb (by decide)] at c4
  exact ⟨ba,bp,bh,bs,h1,by omega,by omega,by omega,by omega,c1,c2,c3,c4⟩
 ·obtain ⟨v,h1,ba,bp,bh,rfl,n1,n2,n3,c1,c2,c3⟩:=(h t).2.2 hb
  rw [zDX hb (by decide)] at c3
  exact ⟨ba,bp,bh,h1,by omega,by omega,by omega,c1,c2,c3⟩
def dnL (ns:List OpR) (left:Lit -> Bool) (t:ByteArray) (k:Int):Bool:=zZ ns t k && !left (klO t k)
theorem zNk {ns:List OpR} {left:Lit -> Bool} {s:ByteArray} {kd:Int} (hz:Zm ns) (hok:zBx ns ns.length) (hss:s.size <= maxLen) (hkw:(Lit.int .i64 kd).wf = true) (hh:zZ ns s kd = true) :
  zEV (dnL ns left) (dnL ns (fun z=>left z && !z.sameKey (klO s kd))) s kd:=by
 intro t k
 unfold dnL
 constructor
 ·intro h
  simp only [Bool.and_eq_true,Bool.not_eq_true',Bool.and_eq_false_iff,Bool.not_eq_false'] at h
  obtain ⟨h1,h2⟩:=h
  rcases h2 with h2 | h2
  ·exact Or.inl (by simp [h1,h2])
  ·right
   have e:klO t k = klO s kd:=by simpa [Lit.sameKey,klO] using h2
   obtain ⟨j,hj,e1,e2⟩:=(ZD _ _ _).1 h1
   have:=zIM (by rw [<- e1]; exact hz j hj) hss (by rw [<- e2]; exact zEu (hok j hj)) hkw e
   exact this
 ·rintro (h | ⟨rfl,rfl⟩)
  ·simp only [Bool.and_eq_true,Bool.not_eq_true'] at h
   simp [h.1,h.2]
  ·simp [hh,Lit.sameKey,klO]
end Go.Proofs.YtokabkhnidlcnacGreatDoor
