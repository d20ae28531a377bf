import Derived.Laws.AppendOwnNone
import Derived.Test.YtgiemobdmbijiaaGreatDoorN13
import Derived.Test.YtgiemobdmbijiaaGreatDoorN14
import Derived.Test.YtgiemobdmbijiaaGreatDoorN16
import Derived.Test.YtgiemobdmbijiaaGreatDoorN19
namespace Go.Proofs.YtgiemobdmbijiaaGreatDoor
set_option linter.unusedSimpArgs false
set_option linter.unusedVariables false
set_option maxHeartbeats 16000000
set_option maxRecDepth 100000
open Go.RowKit
theorem UnF.body {s:ByteArray}:∀ (ls:List (Nat × Nat)) (n:Nat) (us:List ByteArray) (os:List OpR) {u:List ByteArray} {o:List OpR} {b:ByteArray} {c l:Int},UnF s ls n us os u o b c l -> b.size <= s.size
 | [],n,us,os,_,_,_,_,_,h=>by
  obtain ⟨rfl,rfl,rfl,rfl,rfl⟩:=h
  exact Nat.zero_le _
 | p :: r,n,us,os,u,o,b,c,l,h=>by
  rcases h with ⟨_,rfl,rfl,rfl,rfl,rfl⟩ | ⟨_,⟨us',os',hl,h⟩ | ⟨_,rfl,rfl,rfl,rfl,rfl⟩⟩
  ·unfold zAZ
   split
   ·rw [ByteArray.size_extract]; omega
   ·exact Nat.zero_le _
  ·exact UnF.body r _ _ _ h
  ·exact Nat.zero_le _
theorem zHM {s:ByteArray} {u:List ByteArray} {o:List OpR} {b:ByteArray} {c l:Int} (h:zn s u o b c l):b.size <= 20000:=by
 rcases h with ⟨_,rfl,rfl,rfl,rfl,rfl⟩ | ⟨h0,h⟩
 ·exact Nat.zero_le _
 ·exact Nat.le_trans (UnF.body _ _ _ _ h) h0
theorem zAW.good {ms:List zI} {out:List (List OpR)} {who:Int} (h:zAW ms out 0 who):ms.length <= 100 /\ (∀ i,i < ms.length -> ¬ B2 ms i) /\ out.length = ms.length:=by
 rcases h with ⟨_,_,h,_⟩ | ⟨hn,⟨_,_,_,_,_,h,_⟩ | ⟨h2,h⟩⟩
 ·cases h
 ·cases h
 refine ⟨hn,h2,?_⟩
 rcases h with ⟨_,_,_,_,_,h,_⟩ | ⟨_,h⟩
 ·cases h
 obtain ⟨U,_,h⟩:=h
 rcases h with ⟨_,_,_,_,_,h,_⟩ | ⟨_,h⟩
 ·cases h
 rcases h with ⟨_,_,_,_,_,h,_⟩ | ⟨_,h⟩
 ·cases h
 obtain ⟨S,_,h⟩:=h
 rcases h with ⟨_,_,_,_,_,h,_⟩ | ⟨hs,h⟩
 ·cases h
 obtain ⟨rfl,_⟩:=h
 simp
end Go.Proofs.YtgiemobdmbijiaaGreatDoor
namespace Go.Proofs.YtgiemobdmbijiaaGreatDoor
set_option maxHeartbeats 16000000
set_option maxRecDepth 100000
open Go.RowKit
theorem zJA (w:World) (o1 o2 o3:Obj):((((w.alloc o1).alloc o2).alloc o3).alloc (.cells #[] 46)).ownsRow (w.heap.size + 3) 46 4 (.slice (some ⟨w.heap.size + 1 + 1 + 1,0,none⟩) 0 0) 0 []:=by
 have h:=World.ownsRow_lit (base:=w.heap.size + 3) (e:=46) (size:=4) (((w.alloc o1).alloc o2).alloc o3) #[] 0 (by simp) (Nat.zero_le _) rfl
 simpa using h
end Go.Proofs.YtgiemobdmbijiaaGreatDoor
namespace Go.Proofs.YtgiemobdmbijiaaGreatDoor
set_option linter.unusedSimpArgs false
set_option linter.unusedVariables false
set_option maxHeartbeats 16000000
set_option maxRecDepth 100000
open Go.RowKit
theorem zKw {w:World} {ops:Array Oper} {rest:List Oper} {o:Oper} {a:Act} {Q:Exit -> Act -> World -> Prop} (hgd:o.guard = none) (s x:Operand) (ho:o.op = .call { callee:=.builtin .append,args:=#[s,x],argTypes:=#[25,25] })
  (base g c:Nat) (xs ys:List OpR) (v2:Value) (hs:a.eval s = .slice (some ⟨g,0,none⟩) xs.length c) (hown:w.ownsRow base 46 4 (.slice (some ⟨g,0,none⟩) xs.length c) xs.length (zX xs)) (hx:a.eval x = v2) (h2:ZF w v2 ys) (hm:xs.length + ys.length <= 1048576) (hbase:base <= w.heap.size)
  (h:∀ g' c' w',w'.ownsRow base 46 4 (.slice (some ⟨g',0,none⟩) (xs ++ ys).length c') (xs ++ ys).length (zX (xs ++ ys)) -> w.grownBy w' (some g) -> wpList Tryz.prog ops Q rest (a.put o.dst (.slice (some ⟨g',0,none⟩) (xs ++ ys).length c')) w'):wpList Tryz.prog ops Q (o :: rest) a w:=by
 obtain ⟨i0,hi,hz0,hz1,hz2⟩:=zQ zC5
 obtain ⟨a2,c2,rfl,⟨h0,rfl,rfl⟩ | ⟨g2,rfl,hg2,hops⟩⟩:=h2
 ·have hy:ys = []:=List.length_eq_zero_iff.1 h0
  subst hy
  refine wpList_append_own_none hgd s x 25 ho base 46 i0 4 Tryz.underlying25 hi _ xs.length (zX xs) hs hown hx ?_
  have:=h g c w (by simpa using hown) (zO (Below.refl _ _) _)
  simpa using this
 ·refine wpList_append_own w hgd s x 25 ho base 46 i0 _ 4 40 Tryz.underlying25 hi hz0 hz1 hz2 rfl (by decide) _ xs.length (zX xs) hs hown ⟨g2,0,none⟩ ys.length c2 (zX ys) hx (zBc ys) (zIb hops) (ZZ ys) (by unfold maxLen; omega) (by omega) hbase ?_
  intro v' w' hown' hg' hnil
  obtain ⟨g',c',rfl⟩:=zA7 hown' (by simp [hnil])
  rw [<- ZY,<- List.length_append] at hown'
  have:=h g' c' w' hown' (by simpa [Value.ownBlock] using hg')
  rw [<- List.length_append]
  exact this
theorem zED (v v':Value) (xs ys zs:List OpR) (HZS:Hid (zs = xs ++ ys)) (w:World) (hm:xs.length + ys.length <= 1048576) (hx:ZF w v xs) (hy:ZF w v' ys) :
  Calls Tryz.prog 76 #[.agg #[v],.agg #[v']] w fun e w'=>(∃ h cap,e = .returned (.agg #[.slice (some ⟨h,0,none⟩) (Z5 zs zs.length).length cap]) /\ w.heap.size <= h /\ Z1 w' h (Z5 zs zs.length) (Z5 zs zs.length).length) /\ Below w.heap.size w w':=by
 obtain ⟨i0,hi,hz0,hz1,hz2⟩:=zQ zC5
 have ho0:=zJA w
 have HX:=zB (show ∀ o1 o2 o3 o4,ZF ((((w.alloc o1).alloc o2).alloc o3).alloc o4) v xs from fun o1 o2 o3 o4=>hx.grown (row:=none) (zO ((((zC w o1).alloc (by simp) o2).alloc (by simp; omega) o3).alloc (by simp; omega) o4) none) (fun g _ e=>by cases e))
 have HO:=zB ho0
 have HY:=zB hy
 have HI:=zB hi
 have HZ:=zB (And.intro hz0 (And.intro hz1 hz2))
 have hxv:=hx
 have hyv:=hy
 obtain ⟨a1,c1,rfl,_⟩:=hxv
 obtain ⟨a2,c2,rfl,_⟩:=hyv
 clear ho0 hx hy hi hz0 hz1 hz2
 go_enter Tryz.func76,Tryz.ntmps76
 go_wp2_with (at_builtin; refine zKw rfl (.tmp 9) (.tmp 11) rfl (w.heap.size + 3) _ _ [] xs _ rfl (zA HO _ _ _) rfl (zA HX _ _ _ _) (by simp; omega) (by simp) ?next)
 case next=>
  intro ga ca w1 hown1 hgrow1
  try simp only [List.nil_append] at hown1
  try simp only [List.nil_append]
  have hb1:Below (w.heap.size + 3) _ w1:=zEs hgrow1 (by simp) (fun k hk=>by simp at hk; omega)
  have hbw:Below w.heap.size w w1:=((((zC _ _).alloc (by simp) _).alloc (by simp; omega) _).alloc (by simp; omega) _).trans (hb1.mono (by omega))
  have d1:w1.cell? ⟨w.heap.size + 1,0,none⟩ = some (.slice a2 ys.length c2):=by rw [hb1.cell (p:=⟨w.heap.size + 1,0,none⟩) (show w.heap.size + 1 < _ by omega)]; simp [go_sem]
  have d2:w1.cell? ⟨w.heap.size + 1 + 1,0,none⟩ = some (.slice none 0 0):=by rw [hb1.cell (p:=⟨w.heap.size + 1 + 1,0,none⟩) (show w.heap.size + 1 + 1 < _ by omega)]; simp [go_sem]
  have d3:w1.frozen? ⟨w.heap.size + 1 + 1,0,none⟩ = false:=by rw [hb1.frozen (p:=⟨w.heap.size + 1 + 1,0,none⟩) (show w.heap.size + 1 + 1 < _ by omega)]; simp [go_sem]
  have z1:w.heap.size + 3 <= w1.heap.size:=by have:=hb1.size; simp at this; omega
  have hga:=(hown1.lt ga rfl).1
  have HOW:=zB hown1
  have HY1:=zB ((zA HY).grown (row:=none) (zO hbw none) (fun g _ e=>by cases e))
  clear hown1 hgrow1 hb1 HY HX HO
  go_wp2_with (at_builtin; refine zKw rfl (.tmp 13) (.tmp 15) rfl (w.heap.size + 3) ga ca xs ys _ rfl (zA HOW) rfl (zA HY1) hm z1 ?next)
  case next=>
   intro gb cb w2 hown2 hgrow2
   have hb2:Below (w.heap.size + 3) w1 w2:=zEs hgrow2 z1 (fun k hk=>by injection hk with hk; omega)
   have hbw2:Below w.heap.size w w2:=hbw.trans (hb2.mono (by omega))
   have e2:w2.cell? ⟨w.heap.size + 1 + 1,0,none⟩ = some (.slice none 0 0):=(hb2.cell (p:=⟨w.heap.size + 1 + 1,0,none⟩) (show w.heap.size + 1 + 1 < _ by omega)).trans d2
   have e3:w2.frozen? ⟨w.heap.size + 1 + 1,0,none⟩ = false:=(hb2.frozen (p:=⟨w.heap.size + 1 + 1,0,none⟩) (show w.heap.size + 1 + 1 < _ by omega)).trans d3
   have z2:w.heap.size + 3 <= w2.heap.size:=Nat.le_trans z1 hb2.size
   have hzl:zs.length <= 1048576:=by rw [zA HZS]; simp; omega
   have hlen:xs.length + ys.length = zs.length:=by rw [zA HZS]; simp
   rw [hlen]
   rw [<- zA HZS,hlen] at hown2
   clear hlen
   obtain ⟨hgb,hfil⟩:=zBJ hown2
   obtain ⟨hcap,hcap2⟩:=zL4 hown2
   have HF:=zB hfil
   have hgbl:=hfil.1
   have ho2:(w2.alloc (.cells #[] 46)).ownsRow w2.heap.size 46 4 (.slice (some ⟨w2.heap.size,0,none⟩) 0 0) 0 (zX []):=by
    rw [zJh]
    simpa using World.ownsRow_lit (base:=w2.heap.size) (e:=46) (size:=4) w2 #[] 0 (Nat.le_refl _) (Nat.zero_le _) rfl
   have HO2:=zB ho2
   clear hown2 hgrow2 hb2 HOW HY1 d1 d2 d3 hga hm hfil ho2 hbw z1
   go_wp2_with fail
   go_loopw [6,7] (fun out i wr=>∃ (k go co:Nat),k <= zs.length /\ i = .int .i64 (k:Int) /\ out = .slice (some ⟨go,0,none⟩) (Z5 zs k).length co /\ Hid (wr.ownsRow w2.heap.size 46 4 (.slice (some ⟨go,0,none⟩) (Z5 zs k).length co) (Z5 zs k).length (zX (Z5 zs k))) /\ Below w2.heap.size w2 wr) (fun _ i _=>zs.length - (intOf i).toNat)
   case atStart=>exact ⟨0,w2.heap.size,0,Nat.zero_le _,rfl,rfl,HO2,zC _ _⟩
   case round=>
    clear HO2
    obtain ⟨k,go,co,hk,rfl,rfl,hown,hbel⟩:=hrel
    by_cases hlt:k < zs.length
    ·have hops:=(zA HF).ops.below hbel (zA HF).1
     obtain ⟨a0,a1,a2,a3⟩:=hops k hlt
     simp only [Nat.zero_add] at a0 a1 a2 a3
     have hltI:(k:Int) < (zs.length:Int):=by omega
     have hkcb:(k:Int) <= (cb:Int):=by omega
     have zgb:gb < wr.heap.size:=Nat.lt_of_lt_of_le hgbl hbel.size
     have HOPS:=zB hops
     clear hops
     go_wp2_with fail
     go_region_held (fun w'=>w'.cell? ⟨gb,k * 4,none⟩ = some (.string (atO zs k).s) /\ w'.cell? ⟨gb,k * 4 + 1,none⟩ = some (.int .i64 (atO zs k).k) /\ w'.cell? ⟨gb,k * 4 + 2,none⟩ = some (.int .i64 (atO zs k).l) /\ w'.cell? ⟨gb,k * 4 + 3,none⟩ = some (.int .i64 (atO zs k).sd)) (go_keep)
      (first | (go_at_call 102; refine (zLJ gb _ k zs (atO zs k) _ hzl (by omega) (show Ops wr.drew gb 0 zs from zA HOPS) zgb).mono ?_; rintro e w3 ⟨⟨v,rfl,hv⟩,hb3⟩; have HV:=zB hv; have HB3:=zB ((Below.refl wr.heap.size wr).drew.trans hb3); have q0:=(hb3.cell (p:=⟨gb,k * 4,none⟩) zgb).trans (show wr.drew.cell? ⟨gb,k * 4,none⟩ = _ from a0); have q1:=(hb3.cell (p:=⟨gb,k * 4 + 1,none⟩) zgb).trans (show wr.drew.cell? ⟨gb,k * 4 + 1,none⟩ = _ from a1); have q2:=(hb3.cell (p:=⟨gb,k * 4 + 2,none⟩) zgb).trans (show wr.drew.cell? ⟨gb,k * 4 + 2,none⟩ = _ from a2); have q3:=(hb3.cell (p:=⟨gb,k * 4 + 3,none⟩) zgb).trans (show wr.drew.cell? ⟨gb,k * 4 + 3,none⟩ = _ from a3); clear hv hb3))
     have hbel3:=hbel.trans ((zA HB3).mono hbel.size)
     have hown3:=zB ((zA hown).kept (w':=w3) (row:=none) ⟨(zA HB3).os,(zA HB3).tape,(zA HB3).output,(zA HB3).size,fun i hi _=>(zA HB3).block i hi⟩ (Or.inr (by simp [Value.ownBlock])))
     have hul:=zKm zs k
     clear hown HB3 hbel a0 a1 a2 a3
     cases v
     ·have hmi:=zB (zIs (fun h=>Bool.false_ne_true ((zA HV).2 h)))
      clear HV
      go_wp2_with (at_builtin; refine wpList_append_own _ rfl (.tmp 33) (.tmp 38) 25 rfl w2.heap.size 46 i0 _ 4 40 Tryz.underlying25 (zA HI) (zA HZ).1 (zA HZ).2.1 (zA HZ).2.2 rfl (by decide) _ (Z5 zs k).length (zX (Z5 zs k)) rfl ((zA hown3).alloc _) ⟨w3.heap.size,0,none⟩ 1 1 (zX [atO zs k]) rfl rfl (zBK w3 (atO zs k)) (ZZ _) ?b1 ?b2 ?b3 ?next)
      case b1=>unfold maxLen; omega
      case b2=>omega
      case b3=>have:=hbel3.size; simp; omega
      case next=>
       intro v4 w4 hown4 hgrow4 hnil4
       have hgo:=(zA hown3).lt go rfl
       have hbel4:Below w2.heap.size w2 w4:=(hbel3.alloc hbel3.size _).grown hgrow4 (by have:=hbel3.size; simp; omega) (fun q hq=>by simp [Value.ownBlock] at hq; omega)
       obtain ⟨g4,c4,rfl⟩:=zA7 hown4 (by simp [hnil4])
       have hlen4:(Z5 zs (k + 1)).length = (Z5 zs k).length + 1:=by rw [zA hmi]; simp
       rw [<- ZY,<- zA hmi,<- hlen4] at hown4
       have HW4:=zB hown4
       rw [<- hlen4]
       clear hown4 hgrow4 hnil4 hown3 hlen4 hmi
       go_wp2
       exact ⟨⟨k + 1,g4,c4,by omega,by go_num,rfl,HW4,hbel4⟩,by simp [intOf]; omega⟩
     ·have hhi:=zB (zKl ((zA HV).1 rfl))
      clear HV
      go_wp2
      refine ⟨⟨k + 1,go,co,by omega,by go_num,?_,?_,hbel3⟩,by simp [intOf]; omega⟩
      ·rw [zA hhi]
      ·rw [zA hhi]; exact hown3
    ·have hkz:k = zs.length:=by omega
     have c2:wr.cell? ⟨w.heap.size + 1 + 1,0,none⟩ = some (.slice none 0 0):=(hbel.cell (p:=⟨w.heap.size + 1 + 1,0,none⟩) (show w.heap.size + 1 + 1 < _ by omega)).trans e2
     have c3:wr.frozen? ⟨w.heap.size + 1 + 1,0,none⟩ = false:=(hbel.frozen (p:=⟨w.heap.size + 1 + 1,0,none⟩) (show w.heap.size + 1 + 1 < _ by omega)).trans e3
     obtain ⟨hgo,hfo⟩:=zBJ (zA hown)
     have HFO:=zB hfo
     have HKZ:=zB hkz
     clear hfo hown hkz e2 e3
     go_wp2
     have hkz:=zA HKZ
     subst hkz
     refine bodyPost_ret (v:=.agg #[.slice (some ⟨go,0,none⟩) (Z5 zs zs.length).length co]) (by simp [results,Tryz.results76,go_sem,c2]) rfl ⟨⟨go,co,rfl,by omega,?_⟩,?_⟩
     ·exact (zA HFO).setCell _ _ (by simp; omega)
     ·exact (hbw2.trans (hbel.mono (by omega))).setCell (by simp; omega) _
def upB (d:Nat -> Bool) (i:Nat):Nat -> Bool:=fun j=>if j = i then true else d j
def upT (T:Nat -> List OpR) (i:Nat) (x:List OpR):Nat -> List OpR:=fun j=>if j = i then x else T j
def zBy (w:World) (v:Value) (os:List OpR):Prop:=∃ g c,v = .slice (some ⟨g,0,none⟩) os.length c /\ g < w.heap.size /\ Ops w g 0 os
theorem zBy.at' {w:World} {v:Value} {os:List OpR} (h:zBy w v os):ZF w v os:=by
 obtain ⟨g,c,rfl,h1,h2⟩:=h
 exact ⟨_,c,rfl,Or.inr ⟨g,rfl,h1,h2⟩⟩
theorem zBy.of {w:World} {v:Value} {os:List OpR} (h:ZF w v os) (hq:∃ q,v.ownBlock = some q):zBy w v os:=by
 obtain ⟨a,c,rfl,⟨_,rfl,_⟩ | ⟨g,rfl,h1,h2⟩⟩:=h
 ·obtain ⟨q,hq⟩:=hq
  cases hq
 ·exact ⟨g,c,rfl,h1,h2⟩
theorem zBy.blk {w:World} {v:Value} {os:List OpR} (h:zBy w v os):∃ q,v.ownBlock = some q:=by
 obtain ⟨g,c,rfl,_⟩:=h
 exact ⟨g,rfl⟩
theorem zBy.below {w w':World} {v:Value} {os:List OpR} (h:zBy w v os) (hb:Below w.heap.size w w'):zBy w' v os:=zBy.of (h.at'.below hb) h.blk
structure zHy (w:World) (n O D:Nat) (d:Nat -> Bool) (T:Nat -> List OpR) (wr:World):Prop where
 dn:zBl wr D n d
 cs:∀ i,i < n -> ∃ v,wr.cell? ⟨O,i,none⟩ = some v /\ wr.frozen? ⟨O,i,none⟩ = false /\ (d i = true -> zBy wr v (T i) /\ ∀ g,v.ownBlock = some g -> g ≠ O /\ g ≠ D /\ w.heap.size <= g)
 bel:Below w.heap.size w wr
 hO:w.heap.size <= O
 hD:w.heap.size <= D
 hOl:O < wr.heap.size
 hOD:O ≠ D
theorem zHy.below {w wr wr':World} {n O D:Nat} {d:Nat -> Bool} {T:Nat -> List OpR} (h:zHy w n O D d T wr) (hb:Below wr.heap.size wr wr'):zHy w n O D d T wr':=
 ⟨h.dn.below hb,fun i hi=>by
  obtain ⟨v,h1,h2,h3⟩:=h.cs i hi
  exact ⟨v,(hb.cell (p:=⟨O,i,none⟩) h.hOl).trans h1,(hb.frozen (p:=⟨O,i,none⟩) h.hOl).trans h2,fun e=>⟨(h3 e).1.below hb,(h3 e).2⟩⟩,h.bel.trans (hb.mono h.bel.size),h.hO,h.hD,Nat.lt_of_lt_of_le h.hOl hb.size,h.hOD⟩
theorem zBy.set {w:World} {v:Value} {os:List OpR} (h:zBy w v os) (p o:Nat) (x:Value) (hne:∀ g,v.ownBlock = some g -> g ≠ p):zBy (w.setCell ⟨p,o,none⟩ x) v os:=
 zBy.of (h.at'.grown (zm w p o x) (fun g e x=>by injection x with x; exact hne g e x.symm)) h.blk
theorem ZF.set {w:World} {v:Value} {os:List OpR} (h:ZF w v os) (p o:Nat) (x:Value) (hne:∀ g,v.ownBlock = some g -> g ≠ p):ZF (w.setCell ⟨p,o,none⟩ x) v os:=
 h.grown (zm w p o x) (fun g e x=>by injection x with x; exact hne g e x.symm)
theorem zHy.done {w wr:World} {n O D i:Nat} {d:Nat -> Bool} {T:Nat -> List OpR} {v:Value} {X:List OpR} (h:zHy w n O D d T wr) (hi:i < n) (hv:zBy wr v X) (hne:∀ g,v.ownBlock = some g -> g ≠ O /\ g ≠ D /\ w.heap.size <= g) :
  zHy w n O D (upB d i) (upT T i X) ((wr.setCell ⟨O,i,none⟩ v).setCell ⟨D,i,none⟩ (.bool true)):=by
 have hOD:=h.hOD
 refine ⟨?_,fun j hj=>?_,(h.bel.setCell (p:=⟨O,i,none⟩) h.hO _).setCell (p:=⟨D,i,none⟩) h.hD _,h.hO,h.hD,by simpa [World.setCell] using h.hOl,hOD⟩
 ·exact ((h.dn.grown (zm wr O i v) (fun x=>hOD (by injection x))).set hi true).congr (fun j _=>rfl)
 ·obtain ⟨u,h1,h2,h3⟩:=h.cs j hj
  have hc:∀ (W:World),(W.setCell ⟨D,i,none⟩ (.bool true)).cell? ⟨O,j,none⟩ = W.cell? ⟨O,j,none⟩:=fun W=>World.cell?_setCell_other _ _ _ _ (by first | (simp; done) | (simp; intro e; exact absurd e.symm hOD) | (intro x; injection x with x; exact hOD x.symm))
  have hf:((wr.setCell ⟨O,i,none⟩ v).setCell ⟨D,i,none⟩ (.bool true)).frozen? ⟨O,j,none⟩ = false:=by
   rw [World.frozen?_setCell,World.frozen?_setCell]; exact h2
  by_cases e:j = i
  ·subst e
   refine ⟨v,by rw [hc]; exact World.cell?_setCell_same _ _ _ h1,hf,fun _=>⟨?_,hne⟩⟩
   simp only [upT,if_true]
   exact (hv.set O j v (fun g e=>(hne g e).1)).set D j _ (fun g e=>(hne g e).2.1)
  ·refine ⟨u,by rw [hc,World.cell?_setCell_other _ _ _ _ (by first | (simp; done) | (simp; omega) | (intro x; injection x with _ x; omega))]; exact h1,hf,fun hd=>?_⟩
   simp only [upB,e,if_false] at hd
   simp only [upT,e,if_false]
   obtain ⟨h4,h5⟩:=h3 hd
   exact ⟨(h4.set O i v (fun g e=>(h5 g e).1)).set D i _ (fun g e=>(h5 g e).2.1),h5⟩
def zGH (ms:List zI) (U:List UnR) (d:Nat -> Bool) (T:Nat -> List OpR):Prop:=∀ i,i < ms.length -> d i = true -> (∀ u ∈ (atU U i).us,d (nmF ms u) = true) /\ T i = zAV (nmF ms) T (ZQ [] (atU U i).os) (atU U i).us /\ (T i).Nodup /\ ∀ o ∈ T i,o ∈ zBg U
theorem zGH.step {ms:List zI} {U:List UnR} {d:Nat -> Bool} {T:Nat -> List OpR} {i:Nat} {X:List OpR} (h:zGH ms U d T) (hU:U.length = ms.length) (hi:i < ms.length) (hn:d i = false) (hin:∀ u ∈ (atU U i).us,nmF ms u < ms.length) (hu:∀ u ∈ (atU U i).us,d (nmF ms u) = true) (hX:X = zAV (nmF ms) T (ZQ [] (atU U i).os) (atU U i).us):zGH ms U (upB d i) (upT T i X):=by
 have hne:∀ k,d k = true -> k ≠ i:=fun k hk e=>by rw [e,hn] at hk; cases hk
 have hT:∀ (us:List ByteArray) (acc:List OpR),(∀ u ∈ us,d (nmF ms u) = true) -> zAV (nmF ms) T acc us = zAV (nmF ms) (upT T i X) acc us:=fun us acc hd=>zEz us acc (fun u hu=>by
  simp only [upT,hne _ (hd u hu),if_false])
 intro j hj hd
 by_cases e:j = i
 ·subst e
  refine ⟨fun u hu'=>by simp only [upB]; rw [hu u hu']; split <;> rfl,?_,?_,?_⟩
  ·simp only [upT,if_true]
   rw [hX]
   exact (hT _ _ hu).trans (by rw [<- hX])
  ·simp only [upT,if_true]
   rw [hX]
   exact zD6 _ _ _ _ (zB4 _ _ (by simp))
  ·simp only [upT,if_true]
   intro o ho
   rw [hX,zEb,zA8] at ho
   rcases ho with (ho | ho) | ⟨u,hu',ho⟩
   ·cases ho
   ·exact List.mem_flatMap.2 ⟨atU U j,zKq (by omega),ho⟩
   ·exact (h _ (hin u hu') (hu u hu')).2.2.2 o ho
 ·simp only [upB,e,if_false] at hd
  obtain ⟨h1,h2,h3,h4⟩:=h j hj hd
  have eT:upT T i X j = T j:=by simp only [upT,e,if_false]
  rw [eT]
  refine ⟨fun u hu'=>by simp only [upB]; rw [h1 u hu']; split <;> rfl,?_,h3,h4⟩
  rw [<- hT _ _ h1]
  exact h2
def rdy (ms:List zI) (d:Nat -> Bool) (i:Nat) (us:List ByteArray) (k:Nat):Bool:=!d i && (us.take k).all (fun u=>d (nmF ms u))
theorem zMg {ms:List zI} {d:Nat -> Bool} {i k:Nat} {us:List ByteArray} {u:ByteArray} (h:us[k]? = some u):rdy ms d i us (k + 1) = (rdy ms d i us k && d (nmF ms u)):=by
 unfold rdy
 rw [List.take_add_one,h,List.all_append]
 simp [Bool.and_assoc]
theorem zKA {nm:ByteArray -> Nat} {T:Nat -> List OpR} {acc:List OpR} {us:List ByteArray} {k:Nat} {u:ByteArray} (h:us[k]? = some u):zAV nm T acc (us.take (k + 1)) = ZQ (zAV nm T acc (us.take k)) (T (nm u)):=by
 rw [List.take_add_one,h]
 exact zJq nm T acc (us.take k) u
def zA4 (n:Nat) (rk:Nat -> Nat) (d:Nat -> Bool) (r i:Nat):Prop:=∀ j,j < n -> (rk j < r \/ (rk j = r /\ j < i)) -> d j = true
theorem zA4.up {n:Nat} {rk:Nat -> Nat} {d:Nat -> Bool} {r i k:Nat} (h:zA4 n rk d r i):zA4 n rk (upB d k) r i:=fun j hj hr=>by
 simp only [upB]; rw [h j hj hr]; split <;> rfl
theorem zA4.next {n:Nat} {rk:Nat -> Nat} {d:Nat -> Bool} {r i:Nat} (h:zA4 n rk d r i) (hi:rk i = r -> d i = true):zA4 n rk d r (i + 1):=fun j hj hr=>by
 by_cases e:j = i
 ·subst e
  rcases hr with hr | ⟨hr,_⟩
  ·exact h j hj (Or.inl hr)
  ·exact hi hr
 ·exact h j hj (by omega)
theorem zA4.round {n:Nat} {rk:Nat -> Nat} {d:Nat -> Bool} {r:Nat} (h:zA4 n rk d r n):zA4 n rk d (r + 1) 0:=fun j hj hr=>h j hj (by omega)
end Go.Proofs.YtgiemobdmbijiaaGreatDoor
