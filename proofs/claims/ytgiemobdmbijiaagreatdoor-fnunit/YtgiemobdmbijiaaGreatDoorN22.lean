import Derived.Deep.RegionHeld
import Derived.Deep.RegionHeldLaw
import Derived.Deep.AppendLies
import Derived.Test.YtgiemobdmbijiaaGreatDoorN13
import Derived.Test.YtgiemobdmbijiaaGreatDoorN21
namespace Go.Proofs.YtgiemobdmbijiaaGreatDoor
set_option linter.unusedSimpArgs false
set_option linter.unusedVariables false
set_option maxHeartbeats 16000000
set_option maxRecDepth 100000
open Go.RowKit
def zPf (w:World) (ws:List ByteArray) (e:Ending) (w':World):Prop:=
 ∃ g c,e = .returned (.slice (some ⟨g,0,none⟩) ws.length c) /\ Hid (za w' w.heap.size (.slice (some ⟨g,0,none⟩) ws.length c) ws) /\ Hid (Below w.heap.size w w')
def zJ6 (bz cz:Nat) (zs:List zD) (j:Nat) (ws:List ByteArray):Prop:=∀ W:World,zAs W bz 0 zs -> bz < W.heap.size ->
 Calls Tryz.prog 60 #[.slice (some ⟨bz,0,none⟩) zs.length cz,.int .i64 (j:Int)] W (zPf W ws)
def zPg (bz cz:Nat) (zs:List zD) (k:Int) (t:ByteArray) (ja jb:Nat) (ws:List ByteArray):Prop:=
 (zY k = 0 /\ ws = [t]) \/ (k = 3 /\ ∃ w1,0 < w1.length /\ zJ6 bz cz zs ja w1 /\ ws = [t] ++ w1) \/ (k = 6 /\ ∃ w1,0 < w1.length /\ zJ6 bz cz zs ja w1 /\ ws = [opn] ++ w1 ++ [zBw]) \/
 (k = 5 /\ ∃ w1,0 < w1.length /\ zJ6 bz cz zs ja w1 /\ ws = w1 ++ [t]) \/ (k = 4 /\ ∃ w1 w2,0 < w1.length /\ 0 < w2.length /\ zJ6 bz cz zs ja w1 /\ zJ6 bz cz zs jb w2 /\ ws = w1 ++ [t] ++ w2)
theorem ZT {B:Nat} {w w1 w2:World} {r:Option Nat} (h:Below B w w1) (hg:w1.grownBy w2 r) (hr:∀ k,r = some k -> B <= k) (hB:B <= w1.heap.size):Below B w w2:=
 ⟨hg.os.trans h.os,hg.tape.trans h.tape,hg.output.trans h.output,Nat.le_trans h.size hg.size,fun i hi=>(hg.block i (Nat.lt_of_lt_of_le hi hB) (fun e=>by have:=hr i e.symm; omega)).trans (h.block i hi)⟩
theorem za.news {w:World} {B g n c:Nat} {us:List ByteArray} (h:za w B (.slice (some ⟨g,0,none⟩) n c) us):∀ j u,(zH us)[j]? = some u -> w.cell? ((⟨g,0,none⟩:Addr).add j) = some u:=by
 intro j u hj
 rw [Addr.add_mid]
 simp only [zH,List.getElem?_map,Option.map_eq_some_iff] at hj
 obtain ⟨x,hx,rfl⟩:=hj
 exact h.cells j x hx
theorem za.has {w:World} {B:Nat} {v:Value} {us:List ByteArray} (h:za w B v us) (h1:1 <= us.length):∃ g c,v = .slice (some ⟨g,0,none⟩) us.length c:=by
 obtain ⟨_,⟨rfl,h2⟩ | ⟨g,cap,cur,rfl,_⟩⟩:=h
 ·omega
 ·exact ⟨g,_,rfl⟩
theorem za.nil {w:World} {B:Nat} (hB:B <= w.heap.size):za (w.alloc (.cells #[] 9)) B (.slice (some ⟨w.heap.size,0,none⟩) 0 0) []:=
 World.ownsRow_lit (base:=B) (e:=9) (size:=1) w #[] 0 hB (Nat.zero_le _) rfl
theorem za.lit {w:World} {B:Nat} (hB:B <= w.heap.size) (t:ByteArray):za (w.alloc (.cells #[.string t] 9)) B (.slice (some ⟨w.heap.size,0,none⟩) 1 1) [t]:=
 World.ownsRow_lit (base:=B) (e:=9) (size:=1) w #[.string t] 1 hB (by unfold maxLen; omega) rfl
theorem za.join {w:World} {B:Nat} {v:Value} {us vs ws:List ByteArray} (h:w.ownsRow B 9 1 v (us.length + vs.length) (zH us ++ zH vs)) (e:ws = us ++ vs):za w B v ws:=by
 subst e
 unfold za
 rw [zAc,List.length_append]
 exact h
theorem zHL {w w':World} {B n:Nat} {v:Value} {xs:List Value} (h:w.ownsRow B 9 1 v n xs) (hb:Below w.heap.size w w'):w'.ownsRow B 9 1 v n xs:=
 World.ownsRow.kept h (row:=none) ⟨hb.os,hb.tape,hb.output,hb.size,fun i hi _=>hb.block i hi⟩ (by
  cases e:v.ownBlock with
  | none=>exact Or.inl rfl
  | some k=>exact Or.inr (fun x=>by cases x))
theorem zI8 {w:World} {g:Nat} {t:ByteArray} (h:w.cell? ⟨g,0,none⟩ = some (.string t)):∀ j u,(zH [t])[j]? = some u -> w.cell? ((⟨g,0,none⟩:Addr).add j) = some u:=by
 intro j u hj
 rw [Addr.add_mid,Nat.zero_add]
 match j,hj with
 | 0,hj=>simp [zH] at hj; subst hj; exact h
theorem zGF (bz cz i:Nat) (zs:List zD) (k:Int) (t:ByteArray) (ja jb:Nat) (ws:List ByteArray) (hi:i < zs.length) (hzl:zs.length <= 20000) (ho:atN zs i = ⟨k,t,(ja:Int),(jb:Int)⟩) (hlen:ws.length <= 90000) (hc:zPg bz cz zs k t ja jb ws):zJ6 bz cz zs i ws:=by
 intro w hwz hbz
 obtain ⟨i0,hi0,hz0,hz1,hz2⟩:=zQ zCQ
 have HI:=zB hi0
 have HZ:=zB (And.intro hz0 (And.intro hz1 hz2))
 have hjI:(i:Int) < (zs.length:Int):=by omega
 obtain ⟨h0,h1,h2,h3⟩:=hwz i hi
 rw [ho] at h0 h1 h2 h3
 simp only [Nat.zero_add] at h0 h1 h2 h3
 have HC:=zB hc
 have HWZ:=zB hwz
 clear hi0 hz0 hz1 hz2 hc hwz ho
 go_enter Tryz.func60,Tryz.ntmps60
 go_wp2_with fail
 obtain ⟨W0,hW0⟩:∃ W0,W0 = (w.alloc (.cells #[.int .i64 k,.string t,.int .i64 (ja:Int),.int .i64 (jb:Int)] 120)):=⟨_,rfl⟩
 have HN0:=zB (show zp W0 w.heap.size ⟨k,t,(ja:Int),(jb:Int)⟩ by rw [hW0]; exact ⟨by simp [go_sem],by simp [go_sem],by simp [go_sem],by simp [go_sem],by simp [go_sem],by simp [go_sem]⟩)
 have HB0:=zB (show Below w.heap.size w W0 by rw [hW0]; exact zC _ _)
 have HW0:=zB ((zA HWZ).below (zA HB0) hbz)
 have z0:w.heap.size + 1 = W0.heap.size:=by rw [hW0]; simp
 rw [<- hW0]
 obtain ⟨n0,n1,n2,n3,_,_⟩:=zA HN0
 simp only at n0 n1 n2 n3
 clear HWZ hW0 h0 h1 h2 h3
 rcases zA HC with ⟨hk,hws⟩ | ⟨hk,w1,hw1,hrec,hws⟩ | ⟨hk,w1,hw1,hrec,hws⟩ | ⟨hk,w1,hw1,hrec,hws⟩ | ⟨hk,w1,w2,hw1,hw2,hrec,hrec2,hws⟩
 ·have HK:=zB hk
  have HWS:=zB hws
  clear hk hws HC
  (with_reducible refine (zN (zA HK) 0 rfl _).mono ?_)
  rintro e W0' ⟨rfl,hw'⟩
  subst hw'
  go_wp2_with fail
  go_ret
  have e1:ws.length = 1:=by rw [zA HWS]; rfl
  refine ⟨W0'.heap.size,1,?_,zB ?_,zB ((zA HB0).alloc (zA HB0).size _)⟩
  ·rw [e1]; rfl
  ·rw [e1,zA HWS]
   exact za.lit (zA HB0).size t
 ·have HWS:=zB hws
  have HREC:=zB hrec
  subst hk
  have hln:ws.length = 1 + w1.length:=by rw [hws]; simp; omega
  clear hws hrec HC
  (with_reducible refine (zN (show zY 3 = 1 from rfl) 1 rfl _).mono ?_)
  rintro e w' ⟨rfl,hw'⟩
  subst hw'
  go_wp2_with fail
  have HXC:=(zA HREC) _ (zA HW0) (by omega)
  (with_reducible refine HXC.mono ?_)
  clear HXC
  rintro e W1 ⟨g1,c1,rfl,HR1,HB1⟩
  have z1:=(zA HB1).size
  have hNl:w.heap.size < W1.heap.size:=by omega
  have hNn:¬ w.heap.size = W1.heap.size:=by omega
  have hl1:=(zA HR1).lt g1 rfl
  have HN1:=zB ((zA HN0).below (zA HB1))
  have HBW:=zB ((zA HB0).trans ((zA HB1).mono (zA HB0).size))
  obtain ⟨p0,p1,p2,p3,_,_⟩:=zA HN1
  simp only at p0 p1 p2 p3
  have HRA:=zB (za.nil (w:=W1) (B:=w.heap.size) (by omega))
  have HRB:=zB (((zA HR1).below (zC W1 (.cells #[] 9))).below (zC _ (.cells #[.string t] 9)))
  clear n0 n1 n2 n3 HN0 HR1
  go_wp2_with (at_builtin; refine wpList_append_own_at _ rfl (.tmp 27) (.tmp 30) 24 rfl w.heap.size 9 i0 _ 1 16 Tryz.underlying24 (zA HI) (zA HZ).1 (zA HZ).2.1 (zA HZ).2.2 rfl (by decide) _ 0 (zH []) rfl ((zA HRA).below (zC _ _)) ⟨W1.heap.size + 1,0,none⟩ 1 1 (zH [t]) rfl rfl (by have:=ZL (W1.alloc (.cells #[] 9)) t; simpa using this) (zS _) ?b1 ?b2 ?b3 ?next)
  case b1=>unfold maxLen; omega
  case b2=>omega
  case b3=>simp; omega
  case next=>
   intro v4 w4 hown4 hgrow4 hnil4 hat4
   have hr4:za w4 w.heap.size v4 [t]:=za.join (us:=[]) hown4 rfl
   obtain ⟨g4,c4,rfl⟩:=hr4.has (by simp)
   have HR4:=zB hr4
   have hgr:World.grownBy _ w4 (some W1.heap.size):=hgrow4
   have HRC:=zB ((zA HRB).grown hgr (fun k hk=>by simp [Value.ownBlock] at hk; intro e; injection e with e; omega))
   have hat:g4 = W1.heap.size \/ W1.heap.size + 2 <= g4:=by simp [Value.ownBlock] at hat4; omega
   have HB4:=zB (ZT ((((zA HBW).alloc (zA HBW).size (.cells #[] 9))).alloc (by simp; omega) (.cells #[.string t] 9)) hgr (fun k hk=>by injection hk with hk; omega) (by simp; omega))
   have z4:=hgr.size
   simp at z4
   clear hown4 hgrow4 hgr hnil4 hat4 hr4 HRB HRA
   go_wp2_with (at_builtin; refine wpList_append_own_at _ rfl (.tmp 31) (.tmp 32) 24 rfl w.heap.size 9 i0 _ 1 16 Tryz.underlying24 (zA HI) (zA HZ).1 (zA HZ).2.1 (zA HZ).2.2 rfl (by decide) _ 1 (zH [t]) rfl (zA HR4) ⟨g1,0,none⟩ w1.length c1 (zH w1) rfl (by simp [zH]) ((zA HRC).news) (zS _) ?b12 ?b22 ?b32 ?next2)
   case b12=>unfold maxLen; omega
   case b22=>omega
   case b32=>omega
   case next2=>
    intro v5 w5 hown5 hgrow5 hnil5 hat5
    have hr5:za w5 w.heap.size v5 ws:=za.join (us:=[t]) hown5 (zA HWS)
    obtain ⟨g5,c5,rfl⟩:=hr5.has (by omega)
    have HR5:=zB hr5
    have hgr:World.grownBy _ w5 (some g4):=hgrow5
    have HB5:=zB (ZT (zA HB4) hgr (fun k hk=>by injection hk with hk; omega) (by omega))
    clear hown5 hgrow5 hgr hnil5 hat5 hr5
    go_wp2_with fail
    go_ret
    exact ⟨g5,c5,rfl,HR5,HB5⟩
 ·have HWS:=zB hws
  have HREC:=zB hrec
  subst hk
  have hln:ws.length = 1 + w1.length + 1:=by rw [hws]; simp; omega
  clear hws hrec HC
  (with_reducible refine (zN (show zY 6 = 1 from rfl) 1 rfl _).mono ?_)
  rintro e w' ⟨rfl,hw'⟩
  subst hw'
  go_wp2_with fail
  have HXC:=(zA HREC) _ (zA HW0) (by omega)
  (with_reducible refine HXC.mono ?_)
  clear HXC
  rintro e W1 ⟨g1,c1,rfl,HR1,HB1⟩
  have z1:=(zA HB1).size
  have hNl:w.heap.size < W1.heap.size:=by omega
  have hNn:¬ w.heap.size = W1.heap.size:=by omega
  have hl1:=(zA HR1).lt g1 rfl
  have HN1:=zB ((zA HN0).below (zA HB1))
  have HBW:=zB ((zA HB0).trans ((zA HB1).mono (zA HB0).size))
  obtain ⟨p0,p1,p2,p3,_,_⟩:=zA HN1
  simp only at p0 p1 p2 p3
  have HRA:=zB (za.nil (w:=W1) (B:=w.heap.size) (by omega))
  have HRB:=zB (((zA HR1).below (zC W1 (.cells #[] 9))).below (zC _ (.cells #[.string (⟨#[40]⟩:ByteArray)] 9)))
  clear n0 n1 n2 n3 HN0 HR1
  go_wp2_with (at_builtin; refine wpList_append_own_at _ rfl (.tmp 37) (.tmp 38) 24 rfl w.heap.size 9 i0 _ 1 16 Tryz.underlying24 (zA HI) (zA HZ).1 (zA HZ).2.1 (zA HZ).2.2 rfl (by decide) _ 0 (zH []) rfl ((zA HRA).below (zC _ _)) ⟨W1.heap.size + 1,0,none⟩ 1 1 (zH [(⟨#[40]⟩:ByteArray)]) rfl rfl (by have:=ZL (W1.alloc (.cells #[] 9)) (⟨#[40]⟩:ByteArray); simpa using this) (zS _) ?b1 ?b2 ?b3 ?next)
  case b1=>unfold maxLen; omega
  case b2=>omega
  case b3=>simp; omega
  case next=>
   intro v4 w4 hown4 hgrow4 hnil4 hat4
   have hr4:za w4 w.heap.size v4 [(⟨#[40]⟩:ByteArray)]:=za.join (us:=[]) hown4 rfl
   obtain ⟨g4,c4,rfl⟩:=hr4.has (by simp)
   have HR4:=zB hr4
   have hgr:World.grownBy _ w4 (some W1.heap.size):=hgrow4
   have HRC:=zB ((zA HRB).grown hgr (fun k hk=>by simp [Value.ownBlock] at hk; intro e; injection e with e; omega))
   have hat:g4 = W1.heap.size \/ W1.heap.size + 2 <= g4:=by simp [Value.ownBlock] at hat4; omega
   have HB4:=zB (ZT ((((zA HBW).alloc (zA HBW).size (.cells #[] 9))).alloc (by simp; omega) (.cells #[.string (⟨#[40]⟩:ByteArray)] 9)) hgr (fun k hk=>by injection hk with hk; omega) (by simp; omega))
   have z4:=hgr.size
   simp at z4
   clear hown4 hgrow4 hgr hnil4 hat4 hr4 HRB HRA
   go_wp2_with (at_builtin; refine wpList_append_own_at _ rfl (.tmp 39) (.tmp 40) 24 rfl w.heap.size 9 i0 _ 1 16 Tryz.underlying24 (zA HI) (zA HZ).1 (zA HZ).2.1 (zA HZ).2.2 rfl (by decide) _ 1 (zH [(⟨#[40]⟩:ByteArray)]) rfl (zA HR4) ⟨g1,0,none⟩ w1.length c1 (zH w1) rfl (by simp [zH]) ((zA HRC).news) (zS _) ?b12 ?b22 ?b32 ?next2)
   case b12=>unfold maxLen; omega
   case b22=>omega
   case b32=>omega
   case next2=>
    intro v5 w5 hown5 hgrow5 hnil5 hat5
    obtain ⟨ws5,HW5⟩:∃ ws5,Hid (ws5 = [(⟨#[40]⟩:ByteArray)] ++ w1):=⟨_,zB rfl⟩
    have hl5:ws5.length = 1 + w1.length:=by rw [zA HW5]; simp; omega
    have hr5:za w5 w.heap.size v5 ws5:=za.join (us:=[(⟨#[40]⟩:ByteArray)]) hown5 (zA HW5)
    obtain ⟨g5,c5,rfl⟩:=hr5.has (by omega)
    have HR5:=zB hr5
    have hgr:World.grownBy _ w5 (some g4):=hgrow5
    have HB5:=zB (ZT (zA HB4) hgr (fun k hk=>by injection hk with hk; omega) (by omega))
    have hlg:=hr5.lt g5 rfl
    clear hown5 hgrow5 hgr hnil5 hat5 hr5
    go_wp2_with (at_builtin; refine wpList_append_own_at _ rfl (.tmp 41) (.tmp 42) 24 rfl w.heap.size 9 i0 _ 1 16 Tryz.underlying24 (zA HI) (zA HZ).1 (zA HZ).2.1 (zA HZ).2.2 rfl (by decide) _ ws5.length (zH ws5) rfl ((zA HR5).below (zC _ _)) ⟨w5.heap.size,0,none⟩ 1 1 (zH [(⟨#[41]⟩:ByteArray)]) rfl rfl (ZL w5 (⟨#[41]⟩:ByteArray)) (zS _) ?b13 ?b23 ?b33 ?next3)
    case b13=>unfold maxLen; omega
    case b23=>omega
    case b33=>simp; omega
    case next3=>
     intro v6 w6 hown6 hgrow6 hnil6 hat6
     have hr6:za w6 w.heap.size v6 ws:=za.join (us:=ws5) (vs:=[⟨#[41]⟩]) (by rw [hl5]; exact hown6) (by rw [zA HWS,zA HW5]; rfl)
     obtain ⟨g6,c6,rfl⟩:=hr6.has (by omega)
     have HR6:=zB hr6
     have hgr:World.grownBy _ w6 (some g5):=hgrow6
     have HB6:=zB (ZT ((zA HB5).alloc (zA HB5).size (.cells #[.string (⟨#[41]⟩:ByteArray)] 9)) hgr (fun k hk=>by injection hk with hk; omega) (by simp; omega))
     clear hown6 hgrow6 hgr hnil6 hat6 hr6
     go_wp2_with fail
     go_ret
     exact ⟨g6,c6,rfl,HR6,HB6⟩
 ·have HWS:=zB hws
  have HREC:=zB hrec
  subst hk
  have hln:ws.length = w1.length + 1:=by rw [hws]; simp
  clear hws hrec HC
  (with_reducible refine (zN (show zY 5 = 1 from rfl) 1 rfl _).mono ?_)
  rintro e w' ⟨rfl,hw'⟩
  subst hw'
  go_wp2_with fail
  have HXC:=(zA HREC) _ (zA HW0) (by omega)
  (with_reducible refine HXC.mono ?_)
  clear HXC
  rintro e W1 ⟨g1,c1,rfl,HR1,HB1⟩
  have z1:=(zA HB1).size
  have hNl:w.heap.size < W1.heap.size:=by omega
  have hNn:¬ w.heap.size = W1.heap.size:=by omega
  have hl1:=(zA HR1).lt g1 rfl
  have HN1:=zB ((zA HN0).below (zA HB1))
  have HBW:=zB ((zA HB0).trans ((zA HB1).mono (zA HB0).size))
  obtain ⟨p0,p1,p2,p3,_,_⟩:=zA HN1
  simp only at p0 p1 p2 p3
  have HRA:=zB (za.nil (w:=W1) (B:=w.heap.size) (by omega))
  have HR1a:=zB ((zA HR1).below (zC W1 (.cells #[] 9)))
  have HBA:=zB ((zA HBW).alloc (zA HBW).size (.cells #[] 9))
  have qa:(W1.alloc (.cells #[] 9)).drew.cell? ⟨w.heap.size,1,none⟩ = some (.string t):=((zC W1 (.cells #[] 9)).drew.cell (p:=⟨w.heap.size,1,none⟩) (by show w.heap.size < W1.heap.size; omega)).trans p1
  have qb:((W1.alloc (.cells #[] 9)).alloc (.cells #[.string t] 9)).drew.cell? ⟨w.heap.size,1,none⟩ = some (.string t):=(((zC W1 (.cells #[] 9)).alloc (by simp) (.cells #[.string t] 9)).drew.cell (p:=⟨w.heap.size,1,none⟩) (by show w.heap.size < W1.heap.size; omega)).trans p1
  have xb:((W1.alloc (.cells #[] 9)).alloc (.cells #[.string t] 9)).drew.cell? ⟨W1.heap.size + 1,0,none⟩ = some (.string t):=by simp [go_sem]
  clear n0 n1 n2 n3 HN0 HR1
  obtain ⟨ws5,HW5⟩:∃ ws5,Hid (ws5 = w1 ++ [t]):=⟨_,zB rfl⟩
  have hl5:ws5.length = w1.length + 1:=by rw [zA HW5]; simp
  go_wp2_with fail
  go_region_held_law (fun w'=>w'.cell? ⟨w.heap.size,1,none⟩ = some (.string t)) (first | (go_keep; done) | exact q5 | exact ((zC w5 _).cell (p:=⟨w.heap.size,1,none⟩) (by show w.heap.size < w5.heap.size; omega)).trans q5 | exact q6)
   (first | (refine step_append_lies _ (by rfl) (.tmp 47) (.tmp 48) 24 (by rfl) w.heap.size 9 i0 _ 1 16 Tryz.underlying24 (zA HI) (zA HZ).1 (zA HZ).2.1 (zA HZ).2.2 rfl (by decide) _ 0 (zH []) (by rfl) ?hownA5 ⟨g1,0,none⟩ w1.length c1 (zH w1) (by rfl) (by simp [zH]) ?hnewsA5 (zS _) hw1 (by unfold maxLen; omega) (by omega) ?hbaseA5 _ rfl ?_; exact (zA HRA).below (Below.refl _ _).drew; exact ((zA HR1a).below (Below.refl _ _).drew).news; (simp; omega); intro g5 c5 w5 hown5 hgrow5 hat5 hlt5; have hgr:World.grownBy _ w5 (some W1.heap.size):=hgrow5; have hg5:W1.heap.size <= g5:=(by rcases (show some W1.heap.size = some g5 \/ _ from hat5) with h | h; (injection h with h; omega); (rw [h]; simp <;> omega)); have z5:W1.heap.size + 1 <= w5.heap.size:=(by have:=hgr.size; simp at this; omega); have q5:=(zE hgr (b:=w.heap.size) (by simp; omega) (by simp; omega) 1).trans qa; have HOX:=zB hown5; have HO5:=zB (show w5.ownsRow w.heap.size 9 1 (.slice (some ⟨g5,0,none⟩) w1.length c5) w1.length (zH w1) from (by simpa [zH] using hown5)); have HB5:=zB (ZT (zA HBA).drew hgr (fun k hk=>by injection hk with hk; omega) (by first | omega | (simp; omega))); clear hown5 hgrow5 hgr hat5) | (refine step_append_lies _ (by rfl) (.tmp 47) (.tmp 48) 24 (by rfl) w.heap.size 9 i0 _ 1 16 Tryz.underlying24 (zA HI) (zA HZ).1 (zA HZ).2.1 (zA HZ).2.2 rfl (by decide) _ 0 (zH []) (by rfl) ?hownB5 ⟨g1,0,none⟩ w1.length c1 (zH w1) (by rfl) (by simp [zH]) ?hnewsB5 (zS _) hw1 (by unfold maxLen; omega) (by omega) ?hbaseB5 _ rfl ?_; exact (((zA HRA).below (zC _ (.cells #[.string t] 9))).below (Below.refl _ _).drew); exact (((zA HR1a).below (zC _ (.cells #[.string t] 9))).below (Below.refl _ _).drew).news; (simp; omega); intro g5 c5 w5 hown5 hgrow5 hat5 hlt5; have hgr:World.grownBy _ w5 (some W1.heap.size):=hgrow5; have hg5:W1.heap.size <= g5:=(by rcases (show some W1.heap.size = some g5 \/ _ from hat5) with h | h; (injection h with h; omega); (rw [h]; simp <;> omega)); have z5:W1.heap.size + 1 <= w5.heap.size:=(by have:=hgr.size; simp at this; omega); have q5:=(zE hgr (b:=w.heap.size) (by simp; omega) (by simp; omega) 1).trans qb; have HOX:=zB hown5; have HO5:=zB (show w5.ownsRow w.heap.size 9 1 (.slice (some ⟨g5,0,none⟩) w1.length c5) w1.length (zH w1) from (by simpa [zH] using hown5)); have HB5:=zB (ZT ((zA HBA).alloc (by simp; omega) (.cells #[.string t] 9)).drew hgr (fun k hk=>by injection hk with hk; omega) (by first | omega | (simp; omega))); have x5:=(zE hgr (b:=W1.heap.size + 1) (by simp) (by simp) 0).trans xb; clear hown5 hgrow5 hgr hat5) | (refine step_append_lies _ (by rfl) (.tmp 49) (.tmp 52) 24 (by rfl) w.heap.size 9 i0 _ 1 16 Tryz.underlying24 (zA HI) (zA HZ).1 (zA HZ).2.1 (zA HZ).2.2 rfl (by decide) _ w1.length (zH w1) (by rfl) ?hownC5 ⟨w5.heap.size,0,none⟩ 1 1 (zH [t]) (by rfl) (by simp [zH]) ?hnewsC5 (zS _) (by decide) (by unfold maxLen; omega) (by omega) ?hbaseC5 _ rfl ?_; exact (zHL (zA HO5) (zC _ (.cells #[.string t] 9))); exact (ZL w5 t); (simp; omega); intro g6 c6 w6 hown6 hgrow6 hat6 hlt6; have hgr:World.grownBy _ w6 (some g5):=hgrow6; have HR6:=zB (show za w6 w.heap.size (.slice (some ⟨g6,0,none⟩) ws5.length c6) ws5 from (by have h:=za.join (us:=w1) (vs:=[t]) hown6 (zA HW5); rw [hl5]; exact h)); have HB6:=zB (ZT ((zA HB5).alloc (zA HB5).size (.cells #[.string t] 9)) hgr (fun k hk=>by injection hk with hk; omega) (by first | omega | (simp; omega))); have q6:=(zE hgr (b:=w.heap.size) (by first | omega | (simp; omega)) (by intro e; injection e with e; omega) 1).trans (((zC w5 (.cells #[.string t] 9)).cell (p:=⟨w.heap.size,1,none⟩) (by show w.heap.size < w5.heap.size; omega)).trans q5); have hl6:=hlt6; clear hown6 hgrow6 hgr hat6 hlt6) | (refine step_append_lies _ (by rfl) (.tmp 49) (.tmp 52) 24 (by rfl) w.heap.size 9 i0 _ 1 16 Tryz.underlying24 (zA HI) (zA HZ).1 (zA HZ).2.1 (zA HZ).2.2 rfl (by decide) _ (0 + w1.length) (zH [] ++ zH w1) (by rfl) ?hownD5 ⟨W1.heap.size + 1,0,none⟩ 1 1 (zH [t]) (by rfl) (by simp [zH]) ?hnewsD5 (zS _) (by decide) (by unfold maxLen; omega) (by omega) ?hbaseD5 _ rfl ?_; exact (zA HOX); exact (zI8 x5); (first | omega | (simp; omega)); intro g6 c6 w6 hown6 hgrow6 hat6 hlt6; have hgr:World.grownBy _ w6 (some g5):=hgrow6; have HR6:=zB (show za w6 w.heap.size (.slice (some ⟨g6,0,none⟩) ws5.length c6) ws5 from (by rw [hl5]; exact za.join (us:=w1) (vs:=[t]) (by simpa [zH] using hown6) (zA HW5))); have HB6:=zB (ZT (zA HB5) hgr (fun k hk=>by injection hk with hk; omega) (by first | omega | (simp; omega))); have q6:=(zE hgr (b:=w.heap.size) (by first | omega | (simp; omega)) (by intro e; injection e with e; omega) 1).trans q5; have hl6:=hlt6; clear hown6 hgrow6 hgr hat6 hlt6))
  all_goals simp only [List.getElem_toArray,List.getElem_cons_succ,List.getElem_cons_zero,List.setIfInBounds_toArray,List.set_cons_succ,List.set_cons_zero]
  all_goals
   obtain rfl:ws = ws5:=by rw [zA HWS,zA HW5]
   go_wp2_with fail
   go_ret
   refine ⟨g6,c6,?_,HR6,HB6⟩
   first
    | (
     show Ending.returned (.slice (some ⟨g6,0,none⟩) (w1.length + 1) c6) = _
     rw [hl5])
    | (
     show Ending.returned (.slice (some ⟨g6,0,none⟩) (0 + w1.length + 1) c6) = _
     rw [hl5,Nat.zero_add])
 ·have HWS:=zB hws
  have HREC:=zB hrec
  have HREC2:=zB hrec2
  subst hk
  have hln:ws.length = w1.length + 1 + w2.length:=by rw [hws]; simp; omega
  clear hws hrec hrec2 HC
  (with_reducible refine (zN (show zY 4 = 2 from rfl) 2 rfl _).mono ?_)
  rintro e w' ⟨rfl,hw'⟩
  subst hw'
  go_wp2_with fail
  have HXC:=(zA HREC) _ (zA HW0) (by omega)
  (with_reducible refine HXC.mono ?_)
  clear HXC
  rintro e W1 ⟨g1,c1,rfl,HR1,HB1⟩
  have z1:=(zA HB1).size
  have hNl:w.heap.size < W1.heap.size:=by omega
  have hNn:¬ w.heap.size = W1.heap.size:=by omega
  have hl1:=(zA HR1).lt g1 rfl
  have HN1:=zB ((zA HN0).below (zA HB1))
  have HBW:=zB ((zA HB0).trans ((zA HB1).mono (zA HB0).size))
  obtain ⟨p0,p1,p2,p3,_,_⟩:=zA HN1
  simp only at p0 p1 p2 p3
  have HRA:=zB (za.nil (w:=W1) (B:=w.heap.size) (by omega))
  have HR1a:=zB ((zA HR1).below (zC W1 (.cells #[] 9)))
  have HBA:=zB ((zA HBW).alloc (zA HBW).size (.cells #[] 9))
  have qa:(W1.alloc (.cells #[] 9)).drew.cell? ⟨w.heap.size,1,none⟩ = some (.string t):=((zC W1 (.cells #[] 9)).drew.cell (p:=⟨w.heap.size,1,none⟩) (by show w.heap.size < W1.heap.size; omega)).trans p1
  have qb:((W1.alloc (.cells #[] 9)).alloc (.cells #[.string t] 9)).drew.cell? ⟨w.heap.size,1,none⟩ = some (.string t):=(((zC W1 (.cells #[] 9)).alloc (by simp) (.cells #[.string t] 9)).drew.cell (p:=⟨w.heap.size,1,none⟩) (by show w.heap.size < W1.heap.size; omega)).trans p1
  have ra:(W1.alloc (.cells #[] 9)).drew.cell? ⟨w.heap.size,3,none⟩ = some (.int .i64 (jb:Int)):=((zC W1 (.cells #[] 9)).drew.cell (p:=⟨w.heap.size,3,none⟩) (by show w.heap.size < W1.heap.size; omega)).trans p3
  have rb:((W1.alloc (.cells #[] 9)).alloc (.cells #[.string t] 9)).drew.cell? ⟨w.heap.size,3,none⟩ = some (.int .i64 (jb:Int)):=(((zC W1 (.cells #[] 9)).alloc (by simp) (.cells #[.string t] 9)).drew.cell (p:=⟨w.heap.size,3,none⟩) (by show w.heap.size < W1.heap.size; omega)).trans p3
  have HZ1:=zB ((zA HW0).below (zA HB1) (by omega))
  have HZa:=zB ((zA HZ1).below (B:=W1.heap.size) (zC W1 (.cells #[] 9)).drew (by omega))
  have HZb:=zB ((zA HZ1).below (B:=W1.heap.size) ((zC W1 (.cells #[] 9)).alloc (by simp) (.cells #[.string t] 9)).drew (by omega))
  have xb:((W1.alloc (.cells #[] 9)).alloc (.cells #[.string t] 9)).drew.cell? ⟨W1.heap.size + 1,0,none⟩ = some (.string t):=by simp [go_sem]
  clear n0 n1 n2 n3 HN0 HR1
  obtain ⟨ws5,HW5⟩:∃ ws5,Hid (ws5 = w1 ++ [t]):=⟨_,zB rfl⟩
  have hl5:ws5.length = w1.length + 1:=by rw [zA HW5]; simp
  go_wp2_with fail
  go_region_held_law (fun w'=>w'.cell? ⟨w.heap.size,1,none⟩ = some (.string t)) (first | (go_keep; done) | exact q5 | exact ((zC w5 _).cell (p:=⟨w.heap.size,1,none⟩) (by show w.heap.size < w5.heap.size; omega)).trans q5 | exact q6)
   (first | (refine step_append_lies _ (by rfl) (.tmp 54) (.tmp 55) 24 (by rfl) w.heap.size 9 i0 _ 1 16 Tryz.underlying24 (zA HI) (zA HZ).1 (zA HZ).2.1 (zA HZ).2.2 rfl (by decide) _ 0 (zH []) (by rfl) ?hownA4 ⟨g1,0,none⟩ w1.length c1 (zH w1) (by rfl) (by simp [zH]) ?hnewsA4 (zS _) hw1 (by unfold maxLen; omega) (by omega) ?hbaseA4 _ rfl ?_; exact (zA HRA).below (Below.refl _ _).drew; exact ((zA HR1a).below (Below.refl _ _).drew).news; (simp; omega); intro g5 c5 w5 hown5 hgrow5 hat5 hlt5; have hgr:World.grownBy _ w5 (some W1.heap.size):=hgrow5; have hg5:W1.heap.size <= g5:=(by rcases (show some W1.heap.size = some g5 \/ _ from hat5) with h | h; (injection h with h; omega); (rw [h]; simp <;> omega)); have z5:W1.heap.size + 1 <= w5.heap.size:=(by have:=hgr.size; simp at this; omega); have r5:=(zE hgr (b:=w.heap.size) (by simp; omega) (by simp; omega) 3).trans ra; have HZ5:=zB (zBt (zA HZa) hgr (by simp; omega) (by simp; omega)); have q5:=(zE hgr (b:=w.heap.size) (by simp; omega) (by simp; omega) 1).trans qa; have HOX:=zB hown5; have HO5:=zB (show w5.ownsRow w.heap.size 9 1 (.slice (some ⟨g5,0,none⟩) w1.length c5) w1.length (zH w1) from (by simpa [zH] using hown5)); have HB5:=zB (ZT (zA HBA).drew hgr (fun k hk=>by injection hk with hk; omega) (by first | omega | (simp; omega))); clear hown5 hgrow5 hgr hat5) | (refine step_append_lies _ (by rfl) (.tmp 54) (.tmp 55) 24 (by rfl) w.heap.size 9 i0 _ 1 16 Tryz.underlying24 (zA HI) (zA HZ).1 (zA HZ).2.1 (zA HZ).2.2 rfl (by decide) _ 0 (zH []) (by rfl) ?hownB4 ⟨g1,0,none⟩ w1.length c1 (zH w1) (by rfl) (by simp [zH]) ?hnewsB4 (zS _) hw1 (by unfold maxLen; omega) (by omega) ?hbaseB4 _ rfl ?_; exact (((zA HRA).below (zC _ (.cells #[.string t] 9))).below (Below.refl _ _).drew); exact (((zA HR1a).below (zC _ (.cells #[.string t] 9))).below (Below.refl _ _).drew).news; (simp; omega); intro g5 c5 w5 hown5 hgrow5 hat5 hlt5; have hgr:World.grownBy _ w5 (some W1.heap.size):=hgrow5; have hg5:W1.heap.size <= g5:=(by rcases (show some W1.heap.size = some g5 \/ _ from hat5) with h | h; (injection h with h; omega); (rw [h]; simp <;> omega)); have z5:W1.heap.size + 1 <= w5.heap.size:=(by have:=hgr.size; simp at this; omega); have r5:=(zE hgr (b:=w.heap.size) (by simp; omega) (by simp; omega) 3).trans rb; have HZ5:=zB (zBt (zA HZb) hgr (by simp; omega) (by simp; omega)); have q5:=(zE hgr (b:=w.heap.size) (by simp; omega) (by simp; omega) 1).trans qb; have HOX:=zB hown5; have HO5:=zB (show w5.ownsRow w.heap.size 9 1 (.slice (some ⟨g5,0,none⟩) w1.length c5) w1.length (zH w1) from (by simpa [zH] using hown5)); have HB5:=zB (ZT ((zA HBA).alloc (by simp; omega) (.cells #[.string t] 9)).drew hgr (fun k hk=>by injection hk with hk; omega) (by first | omega | (simp; omega))); have x5:=(zE hgr (b:=W1.heap.size + 1) (by simp) (by simp) 0).trans xb; clear hown5 hgrow5 hgr hat5) | (refine step_append_lies _ (by rfl) (.tmp 56) (.tmp 59) 24 (by rfl) w.heap.size 9 i0 _ 1 16 Tryz.underlying24 (zA HI) (zA HZ).1 (zA HZ).2.1 (zA HZ).2.2 rfl (by decide) _ w1.length (zH w1) (by rfl) ?hownC4 ⟨w5.heap.size,0,none⟩ 1 1 (zH [t]) (by rfl) (by simp [zH]) ?hnewsC4 (zS _) (by decide) (by unfold maxLen; omega) (by omega) ?hbaseC4 _ rfl ?_; exact (zHL (zA HO5) (zC _ (.cells #[.string t] 9))); exact (ZL w5 t); (simp; omega); intro g6 c6 w6 hown6 hgrow6 hat6 hlt6; have hgr:World.grownBy _ w6 (some g5):=hgrow6; have HR6:=zB (show za w6 w.heap.size (.slice (some ⟨g6,0,none⟩) ws5.length c6) ws5 from (by have h:=za.join (us:=w1) (vs:=[t]) hown6 (zA HW5); rw [hl5]; exact h)); have HB6:=zB (ZT ((zA HB5).alloc (zA HB5).size (.cells #[.string t] 9)) hgr (fun k hk=>by injection hk with hk; omega) (by first | omega | (simp; omega))); have q6:=(zE hgr (b:=w.heap.size) (by first | omega | (simp; omega)) (by intro e; injection e with e; omega) 1).trans (((zC w5 (.cells #[.string t] 9)).cell (p:=⟨w.heap.size,1,none⟩) (by show w.heap.size < w5.heap.size; omega)).trans q5); have hl6:=hlt6; have r6:=(zE hgr (b:=w.heap.size) (by first | omega | (simp; omega)) (by intro e; injection e with e; omega) 3).trans (((zC w5 (.cells #[.string t] 9)).cell (p:=⟨w.heap.size,3,none⟩) (by show w.heap.size < w5.heap.size; omega)).trans r5); have HZ6:=zB (zBt ((zA HZ5).below (zC w5 (.cells #[.string t] 9)) (by omega)) hgr (by first | omega | (simp; omega)) (by intro e; injection e with e; omega)); have hg6:w.heap.size <= g6:=(by rcases (show some g5 = some g6 \/ _ from hat6) with h | h; (injection h with h; omega); (rw [h]; first | (simp <;> omega) | omega)); have z6:w5.heap.size <= w6.heap.size:=(by have:=hgr.size; first | (simp at this; omega) | omega); clear hown6 hgrow6 hgr hat6 hlt6) | (refine step_append_lies _ (by rfl) (.tmp 56) (.tmp 59) 24 (by rfl) w.heap.size 9 i0 _ 1 16 Tryz.underlying24 (zA HI) (zA HZ).1 (zA HZ).2.1 (zA HZ).2.2 rfl (by decide) _ (0 + w1.length) (zH [] ++ zH w1) (by rfl) ?hownD4 ⟨W1.heap.size + 1,0,none⟩ 1 1 (zH [t]) (by rfl) (by simp [zH]) ?hnewsD4 (zS _) (by decide) (by unfold maxLen; omega) (by omega) ?hbaseD4 _ rfl ?_; exact (zA HOX); exact (zI8 x5); (first | omega | (simp; omega)); intro g6 c6 w6 hown6 hgrow6 hat6 hlt6; have hgr:World.grownBy _ w6 (some g5):=hgrow6; have HR6:=zB (show za w6 w.heap.size (.slice (some ⟨g6,0,none⟩) ws5.length c6) ws5 from (by rw [hl5]; exact za.join (us:=w1) (vs:=[t]) (by simpa [zH] using hown6) (zA HW5))); have HB6:=zB (ZT (zA HB5) hgr (fun k hk=>by injection hk with hk; omega) (by first | omega | (simp; omega))); have q6:=(zE hgr (b:=w.heap.size) (by first | omega | (simp; omega)) (by intro e; injection e with e; omega) 1).trans q5; have hl6:=hlt6; have r6:=(zE hgr (b:=w.heap.size) (by first | omega | (simp; omega)) (by intro e; injection e with e; omega) 3).trans r5; have HZ6:=zB (zBt (zA HZ5) hgr (by first | omega | (simp; omega)) (by intro e; injection e with e; omega)); have hg6:w.heap.size <= g6:=(by rcases (show some g5 = some g6 \/ _ from hat6) with h | h; (injection h with h; omega); (rw [h]; first | (simp <;> omega) | omega)); have z6:w5.heap.size <= w6.heap.size:=(by have:=hgr.size; first | (simp at this; omega) | omega); clear hown6 hgrow6 hgr hat6 hlt6))
  all_goals simp only [List.getElem_toArray,List.getElem_cons_succ,List.getElem_cons_zero,List.setIfInBounds_toArray,List.set_cons_succ,List.set_cons_zero]
  all_goals
   have hNl6:w.heap.size < w6.heap.size:=by omega
   go_wp2_with fail
   have HXC:=(zA HREC2) _ (zA HZ6) (by omega)
   (with_reducible refine HXC.mono ?_)
   clear HXC
   rintro e w7 ⟨g7,c7,rfl,HR7,HB7⟩
   have z7:=(zA HB7).size
   have hl7:=(zA HR7).lt g7 rfl
   have HR8:=zB ((zA HR6).below (zA HB7))
   have HB8:=zB ((zA HB6).trans ((zA HB7).mono (zA HB6).size))
   have HL5:=zB hl5
   have HLN:=zB hln
   have h63:w1.length + 1 + w2.length <= 90000:=by omega
   clear hl5 hln q6 r6 HR6 HB6 HB7
   go_wp2_with (at_builtin; refine wpList_append_own_at _ rfl (.tmp 61) (.tmp 65) 24 rfl w.heap.size 9 i0 _ 1 16 Tryz.underlying24 (zA HI) (zA HZ).1 (zA HZ).2.1 (zA HZ).2.2 rfl (by decide) _ (w1.length + 1) (zH ws5) rfl (by have:=zA HR8; unfold za at this; rw [zA HL5] at this; exact this) ⟨g7,0,none⟩ w2.length c7 (zH w2) rfl (by simp [zH]) (zA HR7).news (zS _) ?b14 ?b24 ?b34 ?next4)
   case b14=>unfold maxLen; omega
   case b24=>omega
   case b34=>omega
   case next4=>
    intro v9 w9 hown9 hgrow9 hnil9 hat9
    have hr9:za w9 w.heap.size v9 ws:=za.join (us:=ws5) (vs:=w2) (by rw [zA HL5]; exact hown9) (by rw [zA HWS,zA HW5])
    obtain ⟨g9,c9,rfl⟩:=hr9.has (by have:=zA HLN; omega)
    have HR9:=zB hr9
    have hgr:World.grownBy _ w9 (some g6):=hgrow9
    have HB9:=zB (ZT (zA HB8) hgr (fun k hk=>by injection hk with hk; omega) (by omega))
    clear hown9 hgrow9 hgr hnil9 hat9 hr9
    go_wp2_with fail
    go_ret
    exact ⟨g9,c9,rfl,HR9,HB9⟩
end Go.Proofs.YtgiemobdmbijiaaGreatDoor
