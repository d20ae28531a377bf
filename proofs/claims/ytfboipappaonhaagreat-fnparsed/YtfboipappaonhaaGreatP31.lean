import Derived.Test.YtfboipappaonhaaGreatP01
import Derived.Test.YtfboipappaonhaaGreatP14
import Derived.Test.YtfboipappaonhaaGreatP18
import Derived.Test.YtfboipappaonhaaGreatP22
import Derived.Test.YtfboipappaonhaaGreatP26
import Derived.Test.YtfboipappaonhaaGreatP28
import Derived.Test.YtfboipappaonhaaGreatP30
namespace Go.Proofs.YtfboipappaonhaaGreat
set_option linter.unusedSimpArgs false
set_option linter.unusedVariables false
set_option maxHeartbeats 16000000
set_option maxRecDepth 100000
open Go.RowKit
theorem zy.atC {w:World} {B g n c:Nat} {us:List ByteArray} (h:zy w B (.slice (some ⟨g,0,none⟩) n c) us) (i:Nat) (hi:i < us.length):w.cell? ⟨g,i,none⟩ = some (.string (_root_.Go.Proofs.YtfboipappaonhaaGreat.atB us i)):=by
 have:=h.cells i us[i] (List.getElem?_eq_getElem hi)
 rw [Nat.zero_add] at this
 rw [this]
 unfold Go.Proofs.YtfboipappaonhaaGreat.atB
 simp [List.getD,hi]
theorem zIC:∀ (T:ET),(ySy T).length <= 2 * tsz T
 | .nil=>Nat.zero_le _
 | .node b o t l r=>by
  have h1:=zIC l
  have h2:=zIC r
  simp only [ySy,tsz]
  split
  ·simp; omega
  ·split
   ·simp; omega
   ·split
    ·simp; omega
    ·split
     ·simp; omega
     ·simp; omega
theorem zGl (bz cz:Nat) (ns:List OpR) (zs:List zD) (T:ET) (a:Option Addr) (cap:Nat) (l:List UInt8) (w:World) (hw:zBY ns T) (hzs:zs = nd T 0) (hzl:zs.length <= 20000) (hz:Zw w bz 0 zs) (hB:bz < w.heap.size) (hsz:∀ q ∈ ySy T,q.2.size <= 20000) (hl:l.length <= 1048576) (hcap:l.length <= cap) (h:zFi w a l) :
  Calls Tryz.prog 29 #[.agg #[.slice (some ⟨bz,0,none⟩) zs.length cz],.slice a l.length cap] w fun e w'=>(∃ s:ByteArray,e = .returned (.string s) /\ Hid (s = (Zm (zDf l) ((ySy T).map (·.2)) 0 (ySy T).length).1 ++ zBf (nxt (zDf l) (Zm (zDf l) ((ySy T).map (·.2)) 0 (ySy T).length).2))) /\ Below w.heap.size w w':=by
 have hzt:zs.length = tsz T:=by rw [hzs,ze]
 have hp:=hw.sh.pos
 have hyl:=zIC T
 have ei:(zs.length:Int) - 1 = ((zs.length - 1:Nat):Int):=by omega
 obtain ⟨W3,HW3⟩:∃ W3,Hid (W3 = (w.alloc (.cells #[.slice (some ⟨bz,0,none⟩) zs.length cz] 28)).alloc (.cells #[] 54)):=⟨_,zB rfl⟩
 have hb3:Below w.heap.size w W3:=by rw [zA HW3]; exact (zC _ _).alloc (by simp) _
 have s3:W3.heap.size = w.heap.size + 2:=by rw [zA HW3]; simp
 have HR3:=zB (show zBD W3 (w.heap.size + 1) (.slice (some ⟨w.heap.size + 1,0,none⟩) 0 0) [] by
  rw [zA HW3]
  have:=World.ownsRow_lit (base:=w.heap.size + 1) (e:=54) (size:=3) (w.alloc (.cells #[.slice (some ⟨bz,0,none⟩) zs.length cz] 28)) #[] 0 (by simp) (Nat.zero_le _) rfl
  simpa [zBD,zx] using this)
 have hrec:=zI9 bz 0 cz ns zs (w.heap.size + 1) (by omega) hzl T hw 0 [] (yT T) (by rw [hzs]; exact zAb T) (by omega) (by simp; omega) (by simp)
 rw [Nat.zero_add,<- hzt] at hrec
 have HCALL:=zB (hrec (.slice (some ⟨w.heap.size + 1,0,none⟩) 0 0) W3 (hz.below hb3 hB) (by omega) (zA HR3))
 rw [zA HW3] at HCALL
 obtain ⟨ws,HWS⟩:∃ ws,Hid (ws = yT T):=⟨_,zB rfl⟩
 rw [<- zA HWS] at HCALL
 have hwl:ws.length <= 40000:=by rw [zA HWS,zDN]; omega
 have hwp:1 <= ws.length:=by rw [zA HWS]; exact zOO hw.sh
 obtain ⟨ts,HTS⟩:∃ ts,Hid (ts = (ySy T).map (·.2)):=⟨_,zB rfl⟩
 have htl:ts.length = ws.length:=by rw [zA HTS,zA HWS,zDN,List.length_map]
 have HTA:=zB (show ∀ k,k < ws.length -> (atW ws k).t = atB ts k from fun k hk=>by
  rw [zA HWS,zA HTS]
  have hk2:k < (ySy T).length:=by rw [zA HWS,zDN] at hk; exact hk
  unfold atW atB yT
  simp [List.getD,hk2,wS])
 have HTZ:=zB (show ∀ i,(atB ts i).size <= 20000 from fun i=>by
  rw [zA HTS]
  by_cases hi:i < (ySy T).length
  ·have:atB ((ySy T).map (·.2)) i = (ySy T)[i].2:=by unfold atB; simp [List.getD,hi]
   rw [this]; exact hsz _ (List.getElem_mem hi)
  ·have:atB ((ySy T).map (·.2)) i = ByteArray.empty:=by unfold atB; simp [List.getD,List.getElem?_eq_none (Nat.le_of_not_lt hi)]
   rw [this]; exact Nat.zero_le _)
 have HGOAL:=zB (show (ySy T).length = ws.length by rw [zA HWS,zDN])
 have HA:=zB h
 have HB3:=zB hb3
 rw [zA HGOAL,<- zA HTS]
 clear h hz hzs hw hzt hyl hrec HR3 hp hsz hb3 hB
 go_enter Tryz.func29,Tryz.ntmps29
 go_wp2_with fail
 refine (zA HCALL).mono ?_
 rw [<- zA HW3]
 rintro x w4 ⟨u',rfl,hr,hg,ho⟩
 obtain ⟨g4,c4,rfl⟩:∃ g k,u' = .slice (some ⟨g,0,none⟩) ws.length k:=by
  obtain ⟨_,⟨rfl,h0⟩ | ⟨g,cap,cur,h,_⟩⟩:=zA hr
  ·omega
  ·exact ⟨_,_,h⟩
 have HOW:=zB (zA hr).ops
 have hg4:=((zA hr).lt g4 rfl).2
 have bel4:=zB (show Below w.heap.size w w4 from (zA HB3).trans ⟨(zA hg).os,(zA hg).tape,(zA hg).output,(zA hg).size,fun i hi=>(zA hg).block i (by omega) (by simp [Value.ownBlock]; omega)⟩)
 have z4:=(zA bel4).size
 clear hr hg ho HCALL HW3 HB3 s3 ei
 obtain ⟨i0,hi0,hz0,hz1,hz2⟩:=zZ zH9
 have HI:=zB hi0
 have HZ:=zB (And.intro hz0 (And.intro hz1 hz2))
 have HO:=zB (zy.nil (w:=w4) (B:=w4.heap.size) (Nat.le_refl _))
 clear hi0 hz0 hz1 hz2
 go_wp2_with fail
 go_loopw [6,7] (fun ov iv wr=>∃ (k g c:Nat) (us:List ByteArray),k <= ws.length /\ iv = .int .i64 (k:Int) /\ ov = .slice (some ⟨g,0,none⟩) us.length c /\ Hid (us = ts.take k) /\ Hid (zy wr w4.heap.size (.slice (some ⟨g,0,none⟩) us.length c) us) /\ Hid (Below w4.heap.size w4 wr)) (fun _ iv _=>ws.length - (intOf iv).toNat)
 case atStart=>exact ⟨0,w4.heap.size,0,[],Nat.zero_le _,rfl,rfl,zB rfl,HO,zB (zC _ _)⟩
 case round=>
  clear HO
  obtain ⟨k,g,c,us,hk,rfl,rfl,HUS,HR,HBB⟩:=hrel
  have HUL:=zB (show us.length = k by rw [zA HUS,List.length_take]; omega)
  have hul:us.length <= 40000:=by rw [zA HUL]; omega
  have zr:=(zA HBB).size
  have hgl:=(zA HR).lt g rfl
  by_cases hlt:k < ws.length
  ·have hltI:(k:Int) < (ws.length:Int):=by omega
   obtain ⟨x0,x1,x2⟩:=((zA HOW).below (zA HBB) hg4) k hlt
   rw [(zA HTA) k hlt] at x0
   obtain ⟨xt,HXT⟩:∃ xt,Hid (xt = atB ts k):=⟨_,zB rfl⟩
   rw [<- zA HXT] at x0
   have hgw:g4 < wr.heap.size:=by omega
   clear x1 x2
   go_wp2_with (at_builtin; refine wpList_append_own_at _ rfl (.tmp 23) (.tmp 29) 59 rfl w4.heap.size 9 i0 _ 1 16 Tryz.underlying59 (zA HI) (zA HZ).1 (zA HZ).2.1 (zA HZ).2.2 rfl (by decide) _ us.length (zO us) rfl ((zA HR).below (zC _ _)) ⟨wr.heap.size,0,none⟩ 1 1 (zO [xt]) rfl rfl (zBM wr xt) (zl _) ?b1 ?b2 ?b3 ?next)
   case b1=>unfold maxLen; omega
   case b2=>omega
   case b3=>first | omega | (simp; omega)
   case next=>
    intro v5 w5 hown5 hgrow5 hnil5 hat5
    obtain ⟨us5,HU5⟩:∃ us5,Hid (us5 = us ++ [xt]):=⟨_,zB rfl⟩
    have hr5:zy w5 w4.heap.size v5 us5:=zy.join (us:=us) (vs:=[xt]) hown5 (zA HU5)
    obtain ⟨g5,c5,rfl⟩:=hr5.has (by rw [zA HU5]; simp)
    have HR5:=zB hr5
    have hgr5:World.grownBy _ w5 (some g):=hgrow5
    have HB5:=zB (zk ((zA HBB).alloc (zA HBB).size _) hgr5 (fun k hk=>by injection hk with hk; omega) (by simp; omega))
    have HU6:=zB (show us5 = ts.take (k + 1) by
     rw [zA HU5,zA HUS,zA HXT,List.take_add_one]
     unfold atB
     rw [List.getD_eq_getElem?_getD,List.getElem?_eq_getElem (by omega)]
     rfl)
    clear hown5 hgrow5 hnil5 hat5 hgr5 hr5
    go_wp2_with fail
    exact ⟨⟨k + 1,g5,c5,us5,by omega,by simp,rfl,HU6,HR5,HB5⟩,by simp [intOf]; omega⟩
  ·have hltI:¬ (k:Int) < (ws.length:Int):=by omega
   obtain rfl:us = ts:=by rw [zA HUS]; exact List.take_of_length_le (by omega)
   have HBW:=zB ((zA bel4).trans ((zA HBB).mono z4))
   go_wp2_with fail
   (with_reducible refine (zFj a cap l _ hl hcap ((zA HA).step (zA HBW))).mono ?_)
   rintro e w6 ⟨⟨rp,cap',rfl,hrp,H6⟩,hb6⟩
   have z6:=hb6.size
   have HR6:=zB ((zA HR).below hb6)
   have HX:=zB (zBo rp cap' 0 g c a (zDf l) us w6 (zA H6).free (zIm l) (by omega) (zA HTZ) (by omega) (by omega) (fun i hi=>(zA HR6).atC i hi))
   have HB6:=zB ((zA HBW).trans (hb6.mono (zA HBW).size))
   have hrl:=(zA H6).lt
   rw [htl] at HX
   have HTL:=zB htl
   clear hb6 HBW
   go_wp2_with fail
   (with_reducible refine (zA HX).mono ?_)
   rintro e w7 ⟨⟨s,rfl,HS⟩,H7,HP7⟩
   clear HX
   go_wp2_with fail
   go_ret
   exact ⟨⟨s,rfl,HS⟩,(zA HB6).trans ((zA HP7).below (by omega) (by omega))⟩
theorem zGH {ns:List OpR} {xs:List zD} {T:ET} {s:Nat} (h:Sh T) (hl:zDG xs T s):ZX ns (atN xs (s + tsz T - 1)) = lvT ns T:=by
 cases T with
 | nil=>exact h.elim
 | node b o t l r=>
  obtain ⟨_,_,h3⟩:=hl
  have e:s + tsz (.node b o t l r) - 1 = s + tsz l + tsz r:=by simp only [tsz]; omega
  rw [e,h3]
  exact zKU ns _ b t rfl rfl
theorem zDa {ns:List OpR} {b:Nat} {t:ByteArray} {j:Nat} (h:fnd ns t ((b:Int) - 2) = some j) (c:Bool):sH ns (b,t) c = zA6 ns j c:=by
 unfold sH ZE rt
 simp only
 rw [h]
theorem zMi {ns:List OpR} {xs:List zD}:∀ (T:ET) (s:Nat),zBY ns T -> zDG xs T s -> ((∀ i,s <= i -> i < s + tsz T -> zA0 ns xs i) ↔ zX ns T):=by
 intro T
 induction T with
 | nil=>intro s h; exact h.elim
 | node b o t l r ihl ihr=>
  intro s hw hl
  have hsh:=hw.sh
  obtain ⟨h1,h2,h3⟩:=hl
  obtain ⟨rfl,hw⟩:=hw
  have hz:tsz (.node b 0 t l r) = tsz l + tsz r + 1:=rfl
  have split:(∀ i,s <= i -> i < s + tsz (.node b 0 t l r) -> zA0 ns xs i) ↔ (∀ i,s <= i -> i < s + tsz l -> zA0 ns xs i) /\ (∀ i,s + tsz l <= i -> i < s + tsz l + tsz r -> zA0 ns xs i) /\ zA0 ns xs (s + tsz l + tsz r):=by
   rw [hz]
   refine ⟨fun h=>⟨fun i a c=>h i a (by omega),fun i a c=>h i (by omega) (by omega),h _ (by omega) (by omega)⟩,fun ⟨h1,h2,h3⟩ i a c=>?_⟩
   by_cases e1:i < s + tsz l
   ·exact h1 i a e1
   ·by_cases e2:i < s + tsz l + tsz r
    ·exact h2 i (by omega) e2
    ·have:i = s + tsz l + tsz r:=by omega
     rw [this]; exact h3
  rw [split]
  have root:zA0 ns xs (s + tsz l + tsz r) ↔ ∀ j,ZD (tN b t l r s) -> fnd ns t ((b:Int) - 2) = some j -> zA6 ns j false <= ZX ns (atN xs (tN b t l r s).a.toNat) /\ (zR (b:Int) = 1 \/ zA6 ns j true <= ZX ns (atN xs (tN b t l r s).b.toNat)):=by
   unfold zA0
   rw [h3]
   exact Iff.rfl
  rcases hw with ⟨hb,rfl,rfl⟩ | ⟨rfl,rfl,wl,rfl⟩ | ⟨hb,hk,wl,rfl⟩ | ⟨rfl,hk,wl,wr⟩
  ·refine ⟨fun _=>⟨rfl,Or.inl ⟨hb,rfl,rfl⟩⟩,fun _=>⟨fun i a c=>by simp [tsz] at c; omega,fun i a c=>by simp [tsz] at c; omega,root.2 fun j hop=>?_⟩⟩
   exfalso
   unfold ZD tN at hop
   simp only at hop
   omega
  ·rw [ihl s wl h1]
   refine ⟨fun h=>⟨rfl,Or.inr (Or.inl ⟨rfl,rfl,h.1,rfl⟩)⟩,fun h=>⟨?_,fun i a c=>by simp [tsz] at c; omega,root.2 fun j hop=>?_⟩⟩
   ·obtain ⟨_,⟨h | h,_⟩ | ⟨_,_,h,_⟩ | ⟨h | h,_⟩ | ⟨h,_⟩⟩:=h
    ·cases h
    ·cases h
    ·exact h
    ·cases h
    ·cases h
    ·cases h
   ·exfalso
    unfold ZD tN at hop
    simp only at hop
    omega
  ·rw [ihl s wl h1]
   obtain ⟨j,hj,hf,_,_⟩:=zEI hk
   simp only at hf
   have hp:=wl.sh.pos
   have hlev:=zGH (ns:=ns) wl.sh h1
   have ka:zR (b:Int) = 1:=by rcases hb with rfl | rfl <;> decide
   have ea:(tN b t l .nil s).a.toNat = s + tsz l - 1:=by
    unfold tN
    simp only
    rw [if_neg (by rw [ka]; decide)]
    omega
   have hop:ZD (tN b t l .nil s):=by
    unfold ZD tN
    simp only
    rcases hb with rfl | rfl <;> decide
   constructor
   ·rintro ⟨g,_,hr⟩
    have:=(root.1 hr) j hop hf
    rw [ea,hlev,<- zDa hf] at this
    exact ⟨rfl,Or.inr (Or.inr (Or.inl ⟨hb,hk,g,rfl,this.1⟩))⟩
   ·rintro ⟨_,⟨h | h,_⟩ | ⟨h,_⟩ | ⟨_,_,g,_,hh⟩ | ⟨h,_⟩⟩
    ·omega
    ·omega
    ·omega
    ·refine ⟨g,fun i a c=>by simp [tsz] at c; omega,root.2 fun j' _ hf'=>?_⟩
     rw [hf] at hf'
     injection hf' with hf'
     subst hf'
     rw [ea,hlev,<- zDa hf]
     exact ⟨hh,Or.inl ka⟩
    ·omega
  ·rw [ihl s wl h1,ihr (s + tsz l) wr h2]
   obtain ⟨j,hj,hf,_,_⟩:=zEI hk
   simp only at hf
   have hp:=wl.sh.pos
   have hq:=wr.sh.pos
   have hlev:=zGH (ns:=ns) wl.sh h1
   have hlev2:=zGH (ns:=ns) wr.sh h2
   have ea:(tN 4 t l r s).a.toNat = s + tsz l - 1:=by
    unfold tN
    simp only
    rw [if_neg (by decide)]
    omega
   have eb:(tN 4 t l r s).b.toNat = s + tsz l + tsz r - 1:=by
    unfold tN
    simp only
    rw [if_pos (by decide)]
    omega
   have hop:ZD (tN 4 t l r s):=by
    unfold ZD tN
    simp only
    decide
   constructor
   ·rintro ⟨g,g',hr⟩
    have:=(root.1 hr) j hop hf
    rw [ea,eb,hlev,hlev2,<- zDa hf,<- zDa hf] at this
    exact ⟨rfl,Or.inr (Or.inr (Or.inr ⟨rfl,hk,g,g',this.1,this.2.resolve_left (by decide)⟩))⟩
   ·rintro ⟨_,⟨h | h,_⟩ | ⟨h,_⟩ | ⟨h | h,_⟩ | ⟨_,_,g,g',hh,hh'⟩⟩
    ·omega
    ·omega
    ·omega
    ·omega
    ·omega
    ·refine ⟨g,g',root.2 fun j' _ hf'=>?_⟩
     rw [hf] at hf'
     injection hf' with hf'
     subst hf'
     rw [ea,eb,hlev,hlev2,<- zDa hf,<- zDa hf]
     exact ⟨hh,Or.inr hh'⟩
theorem zJA {ns:List OpR} {xs:List zD} (htx:∀ i,i < xs.length -> zAL (atN xs i)):∀ (T:ET) (s:Nat),zBY ns T -> zDG xs T s -> s + tsz T <= xs.length -> ∀ q ∈ ySy T,WdK ns q.2 (tkK q.1):=by
 have hop:∀ {b:Nat} {t:ByteArray},knB ns (b,t) = true -> opT ns t:=fun {b t} hk=>by
  obtain ⟨j,hj,_,_,h3⟩:=zEI hk
  have:=zKW hk
  simp only at h3
  rw [h3] at this
  exact ⟨j,hj,this⟩
 intro T
 induction T with
 | nil=>intro s h; exact h.elim
 | node b o t l r ihl ihr=>
  rintro s hw ⟨h1,h2,h3⟩ hz
  simp only [tsz] at hz
  have ht:=htx (s + tsz l + tsz r) (by omega)
  rw [h3] at ht
  obtain ⟨rfl,⟨hb,rfl,rfl⟩ | ⟨rfl,rfl,wl,rfl⟩ | ⟨hb,hk,wl,rfl⟩ | ⟨rfl,hk,wl,wr⟩⟩:=hw
  ·rw [zAS hb]
   intro q hq
   simp only [List.mem_singleton] at hq
   subst hq
   rcases ht.2 with ⟨e,h⟩ | ⟨e,h⟩ | ⟨e,_⟩ | ⟨e,_⟩
   ·have:b = 1:=by simp only [tN] at e; omega
    subst this
    exact Or.inl ⟨rfl,h⟩
   ·have:b = 2:=by simp only [tN] at e; omega
    subst this
    exact Or.inr (Or.inl ⟨rfl,h⟩)
   ·simp only [tN] at e; omega
   ·simp only [tN] at e; omega
  ·rw [zBA]
   intro q hq
   simp only [List.mem_cons,List.mem_append,List.not_mem_nil,or_false] at hq
   rcases hq with rfl | hq | rfl
   ·exact Or.inr (Or.inr (Or.inr (Or.inl ⟨rfl,rfl⟩)))
   ·exact ihl s wl h1 (by omega) q hq
   ·exact Or.inr (Or.inr (Or.inr (Or.inr ⟨rfl,rfl⟩)))
  ·rcases hb with rfl | rfl
   ·rw [zAh]
    intro q hq
    rcases List.mem_cons.1 hq with rfl | hq
    ·exact Or.inr (Or.inr (Or.inl ⟨rfl,hop hk⟩))
    ·exact ihl s wl h1 (by omega) q hq
   ·rw [zAT]
    intro q hq
    rcases List.mem_append.1 hq with hq | hq
    ·exact ihl s wl h1 (by omega) q hq
    ·simp only [List.mem_singleton] at hq
     subst hq
     exact Or.inr (Or.inr (Or.inl ⟨rfl,hop hk⟩))
  ·rw [zBP]
   intro q hq
   rcases List.mem_append.1 hq with hq | hq
   ·exact ihl s wl h1 (by omega) q hq
   ·rcases List.mem_cons.1 hq with rfl | hq
    ·exact Or.inr (Or.inr (Or.inl ⟨rfl,hop hk⟩))
    ·exact ihr _ wr h2 (by omega) q hq
end Go.Proofs.YtfboipappaonhaaGreat
namespace Go.Proofs.YtfboipappaonhaaGreat
set_option linter.unusedSimpArgs false
set_option linter.unusedVariables false
set_option maxHeartbeats 16000000
set_option maxRecDepth 100000
open Go.RowKit
open Go.Deep (BT)
theorem zID {ns:List OpR} (hv:zi ns) {t:ByteArray} {k:Nat} (h:WdK ns t k):(k = 1 /\ cls (bt t 0) = 2) \/ (k = 2 /\ cls (bt t 0) = 3) \/ (k = 3 /\ cls (bt t 0) = 6) \/ (k = 4 /\ cls (bt t 0) = 4) \/ (k = 5 /\ cls (bt t 0) = 5):=by
 rcases h with ⟨e,h⟩ | ⟨e,h⟩ | ⟨e,h⟩ | ⟨e,rfl⟩ | ⟨e,rfl⟩
 ·exact Or.inl ⟨e,h.2 0 h.1⟩
 ·rcases h.2 0 h.1 with e' | ⟨e',_⟩
  ·exact Or.inr (Or.inl ⟨e,e'⟩)
  ·exact absurd rfl e'
 ·exact Or.inr (Or.inr (Or.inl ⟨e,(zDs hv h).2 0 (zDs hv h).1⟩))
 ·exact Or.inr (Or.inr (Or.inr (Or.inl ⟨e,by decide⟩)))
 ·exact Or.inr (Or.inr (Or.inr (Or.inr ⟨e,by decide⟩)))
theorem zHL {ns:List OpR}:∀ (T:ET),zBY ns T -> ∀ q ∈ ySy T,1 <= q.1 /\ q.1 <= 7:=by
 intro T
 induction T with
 | nil=>intro h; exact h.elim
 | node b o t l r ihl ihr=>
  rintro ⟨_,h⟩ q hq
  simp only [ySy] at hq
  rcases h with ⟨hb,_,_⟩ | ⟨rfl,_,hl,_⟩ | ⟨hb,_,hl,_⟩ | ⟨rfl,_,hl,hr⟩
  ·rw [if_neg (by omega),if_neg (by omega),if_neg (by omega),if_neg (by omega)] at hq
   simp at hq; subst hq; simp only; omega
  ·simp only [if_true,List.mem_cons,List.mem_append,List.not_mem_nil,or_false] at hq
   rcases hq with rfl | hq | rfl
   ·exact ⟨by decide,by decide⟩
   ·exact ihl hl q hq
   ·exact ⟨by decide,by decide⟩
  ·rcases hb with rfl | rfl
   ·simp at hq
    rcases hq with rfl | hq
    ·exact ⟨by show 1 <= 3; omega,by show 3 <= 7; omega⟩
    ·exact ihl hl q hq
   ·simp at hq
    rcases hq with hq | rfl
    ·exact ihl hl q hq
    ·exact ⟨by show 1 <= 5; omega,by show 5 <= 7; omega⟩
  ·simp at hq
   rcases hq with hq | rfl | hq
   ·exact ihl hl q hq
   ·exact ⟨by show 1 <= 4; omega,by show 4 <= 7; omega⟩
   ·exact ihr hr q hq
def TxT:ET -> Prop
 | .nil=>True
 | .node b _ t l r=>zAL (rt b t) /\ TxT l /\ TxT r
theorem zOZ:∀ (T:ET) (s:Nat),TxT T -> ∀ o ∈ nd T s,zAL o:=by
 intro T
 induction T with
 | nil=>intro s _ o ho; simp [nd] at ho
 | node b o t l r ihl ihr=>
  rintro s ⟨h1,h2,h3⟩ x hx
  simp only [nd,List.mem_append,List.mem_singleton] at hx
  rcases hx with (hx | hx) | hx
  ·exact ihl _ h2 x hx
  ·exact ihr _ h3 x hx
  ·subst hx; exact h1
theorem zKc {xs:List zD} {i:Nat} (h:i < xs.length):atN xs i ∈ xs:=by
 have:atN xs i = xs[i]:=by unfold atN; simp [List.getD,h]
 rw [this]; exact List.getElem_mem h
theorem zIE {T:ET} (hs:Sh T) (hz:tsz T <= 20000) (ht:TxT T):ZL (nd T 0):=by
 have hp:=hs.pos
 have hf:=zBW T 0 hs (zAb T)
 rw [Nat.zero_add] at hf
 refine ⟨by rw [ze]; exact hp,by rw [ze]; exact hz,by rw [ze]; exact hf,fun i hi=>zOZ T 0 ht _ (zKc hi)⟩
theorem zMj {ns:List OpR}:∀ (T:ET) (s:Nat),zBY ns T -> ∀ o ∈ nd T s,ZD o -> fnd ns o.t (o.k - 2) ≠ none:=by
 intro T
 induction T with
 | nil=>intro s h; exact h.elim
 | node b o t l r ihl ihr=>
  rintro s ⟨_,h⟩ x hx hop
  simp only [nd,List.mem_append,List.mem_singleton] at hx
  rcases hx with (hx | hx) | hx
  ·rcases h with ⟨_,rfl,_⟩ | ⟨_,_,hl,_⟩ | ⟨_,_,hl,_⟩ | ⟨_,_,hl,_⟩
   ·simp [nd] at hx
   ·exact ihl _ hl x hx hop
   ·exact ihl _ hl x hx hop
   ·exact ihl _ hl x hx hop
  ·rcases h with ⟨_,_,rfl⟩ | ⟨_,_,_,rfl⟩ | ⟨_,_,_,rfl⟩ | ⟨_,_,_,hr⟩
   ·simp [nd] at hx
   ·simp [nd] at hx
   ·simp [nd] at hx
   ·exact ihr _ hr x hx hop
  ·subst hx
   have hb:3 <= (b:Int) /\ (b:Int) <= 5:=hop
   have hk:knB ns (b,t) = true:=by
    rcases h with ⟨h,_⟩ | ⟨h,_⟩ | ⟨_,h,_⟩ | ⟨_,h,_⟩
    ·omega
    ·omega
    ·exact h
    ·exact h
   show fnd ns t ((b:Int) - 2) ≠ none
   intro e
   unfold knB at hk
   simp only [e] at hk
   cases hk
theorem zMk {ns:List OpR} {T:ET} (h:zBY ns T):zDi ns (nd T 0):=fun i hi hop=>zMj T 0 h _ (zKc hi) hop
theorem zLH {ns:List OpR} {T:ET} (hv:zM ns 0) (hg:zX ns T) (hz:tsz T <= 20000) (ht:TxT T):zCa ns (nd T 0) 0:=by
 have hf:=(zMi (ns:=ns) T 0 hg.well (zAb T)).2 hg
 refine Or.inr ⟨hv,Or.inr ⟨⟨zIE hg.well.sh hz ht,zMk hg.well⟩,Or.inr ⟨fun i hi=>hf i (Nat.zero_le _) (by rw [ze] at hi; omega),rfl⟩⟩⟩
theorem ZL.sizedN {xs:List zD} (h:ZL xs):zBc xs:=fun i hi=>by have:=(h.2.2.2 i hi).1; unfold maxLen; omega
end Go.Proofs.YtfboipappaonhaaGreat
namespace Go.Proofs.YtfboipappaonhaaGreat
set_option linter.unusedSimpArgs false
set_option linter.unusedVariables false
set_option maxHeartbeats 16000000
set_option maxRecDepth 100000
open Go.RowKit
def zJB (us:List zI):List UInt8:=us.flatMap fun t=>t.g.data.toList ++ t.t.data.toList
theorem zFE (us:List zI):∀ k,k <= us.length -> ZZ us k = zJB (us.take k)
 | 0,_=>rfl
 | k + 1,h=>by
  have ih:=zFE us k (by omega)
  have e:us.take (k + 1) = us.take k ++ [atT us k]:=by
   rw [List.take_add_one,List.getElem?_eq_getElem (by omega)]
   simp [atT,List.getD,List.getElem?_eq_getElem (show k < us.length by omega)]
  rw [e]
  show ZZ us k ++ (atT us k).g.data.toList ++ (atT us k).t.data.toList = _
  rw [ih]
  simp [zJB]
theorem zGI (us:List zI):ZZ us us.length = zJB us:=by
 rw [zFE us us.length (Nat.le_refl _),List.take_length]
theorem zGJ (s:ByteArray) (i j:Nat):(s.extract i j).data.toList = (s.data.toList.drop i).take (j - i):=by
 simp [ByteArray.data_extract,List.extract_eq_take_drop]
theorem zGK {xs:List OpR} {s:ByteArray}:∀ (us:List zI) (i:Nat),ZK xs s i us -> zJB us = s.data.toList.drop i /\ us.length + i <= s.size + 1
 | [],_,h=>h.elim
 | t :: out,i,h=>by
  have hsl:s.data.toList.length = s.size:=by simp
  rcases h with ⟨rfl,hi,_,rfl⟩ | ⟨j,n,k,hij,hj,_,_,htok,rfl,hout⟩
  ·refine ⟨?_,by simp; omega⟩
   show (s.extract i s.size).data.toList ++ [] ++ [] = _
   rw [zGJ,List.append_nil,List.append_nil,List.take_of_length_le (by rw [List.length_drop,hsl]; exact Nat.le_refl _)]
  ·obtain ⟨ih1,ih2⟩:=zGK out (j + n) hout
   have h1:=htok.1
   refine ⟨?_,by simp; omega⟩
   show (s.extract i j).data.toList ++ (s.extract j (j + n)).data.toList ++ zJB out = _
   rw [ih1,zGJ,zGJ]
   have e1:s.data.toList.drop (j + n) = (s.data.toList.drop j).drop n:=by rw [List.drop_drop]
   have e2:s.data.toList.drop j = (s.data.toList.drop i).drop (j - i):=by rw [List.drop_drop]; congr 1; omega
   rw [List.append_assoc,e1,Nat.add_sub_cancel_left,List.take_append_drop,e2,List.take_append_drop]
theorem zDb {xs:List OpR} {s:ByteArray} {us:List zI} (h:ZK xs s 0 us):(⟨(ZZ us us.length).toArray⟩:ByteArray) = s /\ us.length <= s.size + 1 /\ ZF us us.length = s.size:=by
 obtain ⟨h1,h2⟩:=zGK us 0 h
 rw [List.drop_zero] at h1
 have h3:=zB3 us us.length
 rw [zGI,h1] at h3
 refine ⟨?_,by omega,by rw [<- h3]; simp⟩
 rw [zGI,h1]
end Go.Proofs.YtfboipappaonhaaGreat
namespace Go.Proofs.YtfboipappaonhaaGreat
set_option linter.unusedSimpArgs false
set_option linter.unusedVariables false
set_option maxHeartbeats 16000000
set_option maxRecDepth 100000
theorem zMl {ns:List OpR} {ts:List zI} {i m:Nat} (h:(atT ts i).t.size <= m) (h1:1 <= m):(sgT ns ts i).2.size <= m:=by
 unfold sgT
 split
 ·exact h
 ·split
  ·exact h1
  ·split
   ·exact h1
   ·split
    ·exact Nat.zero_le _
    ·exact h
end Go.Proofs.YtfboipappaonhaaGreat
namespace Go.Proofs.YtfboipappaonhaaGreat
set_option linter.unusedSimpArgs false
set_option linter.unusedVariables false
set_option maxHeartbeats 16000000
set_option maxRecDepth 100000
open Go.RowKit
open Go.Deep (BT)
theorem zFF {ns:List OpR} {s:ByteArray}:∀ (ts:List zI) (i:Nat),ZK ns s i ts -> ∀ j,j < ts.length -> ((atT ts j).k = 1 -> zDA (atT ts j).t) /\ ((atT ts j).k = 2 -> zBH (atT ts j).t)
 | [],_,h,_,_=>h.elim
 | t :: out,i,h,j,hj=>by
  rcases h with ⟨rfl,_,_,rfl⟩ | ⟨p,n,k,_,_,_,_,hk,rfl,hr⟩
  ·have:j = 0:=by simp at hj; omega
   subst this
   refine ⟨fun h=>?_,fun h=>?_⟩
   ·exact absurd h (by show ¬ ((7:Int) = 1); decide)
   ·exact absurd h (by show ¬ ((7:Int) = 2); decide)
  ·cases j with
   | succ j=>exact zFF out _ hr j (by simpa using hj)
   | zero=>
    obtain ⟨h1,h2,hc⟩:=hk
    have hz:=zAF h2
    have hb:=fun (q:Nat) (hq:q < n)=>zBs (s:=s) h2 hq
    refine ⟨fun h=>?_,fun h=>?_⟩
    ·have hk1:(k:Int) = 1:=h
     show zDA (sub s p n)
     rcases hc with ⟨_,_,ha,_⟩ | ⟨_,e,_⟩ | ⟨_,e,_⟩ | ⟨_,e,_⟩ | ⟨_,⟨e,_⟩ | ⟨e,_⟩⟩ | ⟨_,e,_⟩
     ·exact ⟨by omega,fun q hq=>by rw [hb q (by omega)]; exact ha q (by omega)⟩
     all_goals omega
    ·have hk1:(k:Int) = 2:=h
     show zBH (sub s p n)
     rcases hc with ⟨_,e,_⟩ | ⟨h3,_,ha,_⟩ | ⟨_,e,_⟩ | ⟨_,e,_⟩ | ⟨_,⟨e,_⟩ | ⟨e,_⟩⟩ | ⟨_,e,_⟩
     ·omega
     ·refine ⟨by omega,fun q hq=>?_⟩
      rw [hb q (by omega)]
      by_cases e:q = 0
      ·subst e; exact Or.inl h3
      ·rcases ha q (by omega) with h | h
       ·exact Or.inr ⟨e,h⟩
       ·exact Or.inl h
     all_goals omega
theorem zNo {ns:List OpR} {ts:List zI} {i:Nat} (hk:(atT ts i).k = 3) (hr:0 <= zP ns ts i):1 <= zP ns ts i:=by
 have:zP ns ts i = 1 \/ zP ns ts i = 2 \/ zP ns ts i = 3 \/ zP ns ts i = -1:=by
  unfold zP zq
  split
  ·rw [if_neg (by omega)]
   split
   ·exact Or.inl rfl
   ·exact Or.inr (Or.inr (Or.inr rfl))
  ·split
   ·exact Or.inr (Or.inl rfl)
   ·split
    ·exact Or.inr (Or.inr (Or.inl rfl))
    ·rw [if_neg (by omega),if_neg (by omega)]
     exact Or.inr (Or.inr (Or.inr rfl))
 omega
theorem zMm {ns:List OpR} (hv:zM ns 0) {b:Nat} {t:ByteArray} (h:knB ns (b,t) = true):zDn t = true:=by
 unfold knB at h
 cases e:fnd ns t ((b:Int) - 2) with
 | none=>simp only [e] at h; cases h
 | some j=>
  obtain ⟨hj,hs,_⟩:=ZW e
  have hok:=(zBX hv).1 j hj
  unfold OpR.ok okB at hok
  simp only [Bool.and_eq_true] at hok
  rw [hs] at hok
  exact hok.1.1.1
theorem zLI {ns:List OpR} (hv:zM ns 0):∀ (T:ET),zBY ns T -> (∀ q ∈ ySy T,q.2.size <= 20000 /\ (q.1 = 1 -> zDA q.2) /\ (q.1 = 2 -> zBH q.2)) -> TxT T:=by
 intro T
 induction T with
 | nil=>intro h; exact h.elim
 | node b o t l r ihl ihr=>
  rintro ⟨rfl,h⟩ hy
  rcases h with ⟨h12,rfl,rfl⟩ | ⟨rfl,rfl,hl,rfl⟩ | ⟨h35,hk,hl,rfl⟩ | ⟨rfl,hk,hl,hr⟩
  ·rw [zAS h12] at hy
   obtain ⟨a,b1,b2⟩:=hy (b,t) (by simp)
   refine ⟨⟨a,?_⟩,trivial,trivial⟩
   rcases h12 with rfl | rfl
   ·exact Or.inl ⟨rfl,b1 rfl⟩
   ·exact Or.inr (Or.inl ⟨rfl,b2 rfl⟩)
  ·rw [zBA] at hy
   exact ⟨⟨by decide,Or.inr (Or.inr (Or.inl ⟨rfl,rfl⟩))⟩,ihl hl (fun x hx=>hy x (by simp [hx])),trivial⟩
  ·have ht:=zMm hv hk
   have hyl:∀ q ∈ ySy l,q.2.size <= 20000 /\ (q.1 = 1 -> zDA q.2) /\ (q.1 = 2 -> zBH q.2):=by
    rcases h35 with rfl | rfl
    ·rw [zAh] at hy; exact fun x hx=>hy x (by simp [hx])
    ·rw [zAT] at hy; exact fun x hx=>hy x (by simp [hx])
   have hyt:t.size <= 20000:=by
    rcases h35 with rfl | rfl
    ·rw [zAh] at hy; exact (hy (3,t) (by simp)).1
    ·rw [zAT] at hy; exact (hy (5,t) (by simp)).1
   refine ⟨⟨hyt,Or.inr (Or.inr (Or.inr ⟨?_,ht⟩))⟩,ihl hl hyl,trivial⟩
   show (b:Int) = 3 \/ (b:Int) = 4 \/ (b:Int) = 5
   omega
  ·rw [zBP] at hy
   have ht:=zMm hv hk
   exact ⟨⟨(hy (4,t) (by simp)).1,Or.inr (Or.inr (Or.inr ⟨Or.inr (Or.inl rfl),ht⟩))⟩,ihl hl (fun x hx=>hy x (by simp [hx])),ihr hr (fun x hx=>hy x (by simp [hx]))⟩
theorem zLJ {ns:List OpR} {s:ByteArray} {us:List zD} {p:Int} (h:zAi ns s us 0 p):∃ T,zM ns 0 /\ zX ns T /\ us = nd T 0 /\ TxT T /\ tsz T <= 20000 /\ hT T <= 1000:=by
 rcases h with ⟨_,_,h,_⟩ | ⟨hv,⟨_,_,h,_⟩ | ⟨h20,ts,hx,⟨i,_,_,_,_,h,_⟩ | ⟨hno,⟨i,_,_,_,_,h,_⟩ | ⟨hf,h⟩⟩⟩⟩
 ·omega
 ·omega
 ·omega
 ·omega
 ·rcases h with ⟨_,_,h,_⟩ | ⟨T,r,hr,⟨_,_,h,_⟩ | ⟨hht,rfl,_,_⟩⟩
  ·omega
  ·omega
  ·have hl:=zBL ts 0 hx
   have hfe:=zKb hf hl 0 hl.1
   rw [Nat.sub_zero] at hfe
   have h1:=Zh hv _ _ none _ 0 _ (by omega) hfe (fun L e=>by cases e) hr
   have hfr:=h1.1
   have e0:=h1.2.2.2.2
   simp only [yM,List.nil_append] at e0
   have e:=congrArg List.length e0
   simp only [List.length_append] at e
   rw [zAA] at e
   have hts:=zHs T h1.2.1
   have hlt:=(zDb hx).2.1
   have hrr:1 <= r.length:=by
    cases hrl:r with
    | nil=>
     exfalso
     rw [hrl,List.append_nil] at e0
     have hlast:sgT ns ts (ts.length - 1) ∈ sgs ns ts 0 ts.length:=by
      unfold sgs
      exact List.mem_map.2 ⟨ts.length - 1,by rw [List.mem_range'_1]; omega,rfl⟩
     have heo:sgT ns ts (ts.length - 1) = eoS:=by
      unfold sgT
      rw [hl.2]
      rfl
     rw [heo,e0] at hlast
     have:=zHL T h1.2.1.well _ hlast
     have h8:eoS.1 = 8:=rfl
     omega
    | cons x r'=>simp
   refine ⟨T,hv,h1.2.1,rfl,zLI hv T h1.2.1.well (fun x hx2=>?_),by omega,hht⟩
   have hmem:x ∈ sgs ns ts 0 ts.length:=by rw [e0]; exact List.mem_append_left _ hx2
   have hk7:=zHL T h1.2.1.well x hx2
   unfold sgs at hmem
   obtain ⟨i,hi,rfl⟩:=List.mem_map.1 hmem
   rw [List.mem_range'_1] at hi
   have hsz:=(zB7 ts 0 hx i (by omega)).2
   have hkd:=zFF ts 0 hx i (by omega)
   have hro:=fun (h:(atT ts i).k = 3)=>zNo h (hf i (by omega))
   have key:∀ z:Nat,(z = 1 \/ z = 2) -> (sgT ns ts i).1 = z -> (atT ts i).k = (z:Int) /\ (sgT ns ts i).2 = (atT ts i).t:=by
    intro z hz hs
    unfold sgT at hs ⊢
    by_cases h3:(atT ts i).k = 3
    ·rw [if_pos h3] at hs
     have:=hro h3
     simp only at hs
     omega
    ·rw [if_neg h3] at hs ⊢
     by_cases h4:(atT ts i).k = 4
     ·rw [if_pos h4] at hs; simp only at hs; omega
     ·rw [if_neg h4] at hs ⊢
      by_cases h5:(atT ts i).k = 5
      ·rw [if_pos h5] at hs; simp only at hs; omega
      ·rw [if_neg h5] at hs ⊢
       by_cases h7:(atT ts i).k = 7
       ·rw [if_pos h7] at hs
        have h8:eoS.1 = 8:=rfl
        omega
       ·rw [if_neg h7] at hs ⊢
        simp only at hs
        exact ⟨by omega,rfl⟩
   refine ⟨zMl (by omega) (by omega),fun h=>?_,fun h=>?_⟩
   ·obtain ⟨a,b⟩:=key 1 (Or.inl rfl) h
    rw [b]; exact hkd.1 a
   ·obtain ⟨a,b⟩:=key 2 (Or.inr rfl) h
    rw [b]; exact hkd.2 a
end Go.Proofs.YtfboipappaonhaaGreat
