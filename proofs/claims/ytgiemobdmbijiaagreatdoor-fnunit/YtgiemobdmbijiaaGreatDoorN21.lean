import Derived.Deep.DeepCutAuto
import Derived.Deep.RegionHeld
import Derived.Deep.RegionHeldLaw
import Derived.Deep.AppendLies
import Derived.BigQuiet
import Derived.Test.YtgiemobdmbijiaaGreatDoorN04
import Derived.Test.YtgiemobdmbijiaaGreatDoorN07
import Derived.Test.YtgiemobdmbijiaaGreatDoorN09
import Derived.Test.YtgiemobdmbijiaaGreatDoorN13
import Derived.Test.YtgiemobdmbijiaaGreatDoorN20
namespace Go.Proofs.YtgiemobdmbijiaaGreatDoor
set_option linter.unusedSimpArgs false
set_option linter.unusedVariables false
set_option maxHeartbeats 16000000
set_option maxRecDepth 100000
open Go.RowKit
def zp (w:World) (N:Nat) (o:zD):Prop:=w.cell? ⟨N,0,none⟩ = some (.int .i64 o.k) /\ w.cell? ⟨N,1,none⟩ = some (.string o.t) /\ w.cell? ⟨N,2,none⟩ = some (.int .i64 o.a) /\ w.cell? ⟨N,3,none⟩ = some (.int .i64 o.b) /\ w.frozen? ⟨N,2,none⟩ = false /\ w.frozen? ⟨N,3,none⟩ = false
theorem zp.grown {w w':World} {N:Nat} {o:zD} {row:Option Nat} (h:zp w N o) (hg:w.grownBy w' row) (hne:row ≠ some N):zp w' N o:=by
 obtain ⟨h0,h1,h2,h3,h4,h5⟩:=h
 have hlt:N < w.heap.size:=block_lt_of_cell h0
 have c:=zE hg hlt hne
 have f:∀ o,w'.frozen? ⟨N,o,none⟩ = w.frozen? ⟨N,o,none⟩:=fun o=>World.frozen?_of_block (w:=w) (hg.block N hlt (fun e=>hne e.symm))
 exact ⟨(c 0).trans h0,(c 1).trans h1,(c 2).trans h2,(c 3).trans h3,(f 2).trans h4,(f 3).trans h5⟩
theorem zp.below {w w':World} {N:Nat} {o:zD} (h:zp w N o) (hb:Below w.heap.size w w'):zp w' N o:=h.grown (zO hb none) (by simp)
theorem zp.set2 {w:World} {N:Nat} {o:zD} (h:zp w N o) (v:Int):zp (w.setCell ⟨N,2,none⟩ (.int .i64 v)) N ⟨o.k,o.t,v,o.b⟩:=by
 obtain ⟨h0,h1,h2,h3,h4,h5⟩:=h
 have c:∀ j,j ≠ 2 -> (w.setCell ⟨N,2,none⟩ (.int .i64 v)).cell? ⟨N,j,none⟩ = w.cell? ⟨N,j,none⟩:=fun j hj=>World.cell?_setCell_other _ _ _ _ (fun x=>hj (by injection x with _ x; exact x.symm))
 exact ⟨(c 0 (by omega)).trans h0,(c 1 (by omega)).trans h1,World.cell?_setCell_same _ _ _ h2,(c 3 (by omega)).trans h3,(World.frozen?_setCell _ _ _ _).trans h4,(World.frozen?_setCell _ _ _ _).trans h5⟩
theorem zp.set3 {w:World} {N:Nat} {o:zD} (h:zp w N o) (v:Int):zp (w.setCell ⟨N,3,none⟩ (.int .i64 v)) N ⟨o.k,o.t,o.a,v⟩:=by
 obtain ⟨h0,h1,h2,h3,h4,h5⟩:=h
 have c:∀ j,j ≠ 3 -> (w.setCell ⟨N,3,none⟩ (.int .i64 v)).cell? ⟨N,j,none⟩ = w.cell? ⟨N,j,none⟩:=fun j hj=>World.cell?_setCell_other _ _ _ _ (fun x=>hj (by injection x with _ x; exact x.symm))
 exact ⟨(c 0 (by omega)).trans h0,(c 1 (by omega)).trans h1,(c 2 (by omega)).trans h2,World.cell?_setCell_same _ _ _ h3,(World.frozen?_setCell _ _ _ _).trans h4,(World.frozen?_setCell _ _ _ _).trans h5⟩
theorem zp.other {w:World} {N g j:Nat} {o:zD} (h:zp w N o) (v:Value) (hne:g ≠ N):zp (w.setCell ⟨g,j,none⟩ v) N o:=
 h.grown (row:=some g) ⟨rfl,rfl,rfl,by simp [World.setCell],fun i _ hi=>Below.heap_setCell _ _ _ _ (fun e=>hi (by rw [e]))⟩ (by simpa using hne)
def zB7 (w:World) (N:Nat) (p:OpR):Prop:=w.cell? ⟨N,0,none⟩ = some (.string p.s) /\ w.cell? ⟨N,1,none⟩ = some (.int .i64 p.k) /\ w.cell? ⟨N,2,none⟩ = some (.int .i64 p.l) /\ w.cell? ⟨N,3,none⟩ = some (.int .i64 p.sd)
theorem zB7.grown {w w':World} {N:Nat} {o:OpR} {row:Option Nat} (h:zB7 w N o) (hg:w.grownBy w' row) (hne:row ≠ some N):zB7 w' N o:=by
 obtain ⟨h0,h1,h2,h3⟩:=h
 have hlt:N < w.heap.size:=block_lt_of_cell h0
 have c:=zE hg hlt hne
 exact ⟨(c 0).trans h0,(c 1).trans h1,(c 2).trans h2,(c 3).trans h3⟩
theorem zB7.below {w w':World} {N:Nat} {o:OpR} (h:zB7 w N o) (hb:Below w.heap.size w w'):zB7 w' N o:=h.grown (zO hb none) (by simp)
theorem zB7.other {w:World} {N g j:Nat} {o:OpR} (h:zB7 w N o) (v:Value) (hne:g ≠ N):zB7 (w.setCell ⟨g,j,none⟩ v) N o:=
 h.grown (row:=some g) ⟨rfl,rfl,rfl,by simp [World.setCell],fun i _ hi=>Below.heap_setCell _ _ _ _ (fun e=>hi (by rw [e]))⟩ (by simpa using hne)
theorem zB8 {w w':World} {b off B:Nat} {xs:List OpR} {row:Option Nat} (h:Ops w b off xs) (hg:w.grownBy w' row) (hb:b < B) (hB:B <= w.heap.size) (hr:∀ k,row = some k -> B <= k):Ops w' b off xs:=fun i hi=>by
 obtain ⟨a0,a1,a2,a3⟩:=h i hi
 have c:=zE hg (b:=b) (by omega) (fun e=>by have:=hr _ e; omega)
 exact ⟨(c _).trans a0,(c _).trans a1,(c _).trans a2,(c _).trans a3⟩
theorem zJ3 {w w':World} {b off B:Nat} {xs:List zD} {row:Option Nat} (h:zAs w b off xs) (hg:w.grownBy w' row) (hb:b < B) (hB:B <= w.heap.size) (hr:∀ k,row = some k -> B <= k):zAs w' b off xs:=fun i hi=>by
 obtain ⟨a0,a1,a2,a3⟩:=h i hi
 have c:=zE hg (b:=b) (by omega) (fun e=>by have:=hr _ e; omega)
 exact ⟨(c _).trans a0,(c _).trans a1,(c _).trans a2,(c _).trans a3⟩
theorem zr.base {w:World} {B:Nat} {u:Value} {us:List zD} (h:zr w B u us):∀ g,u.ownBlock = some g -> B <= g:=fun g hg=>(World.ownsRow.lt h g hg).1
theorem zr.other {w:World} {B g j:Nat} {u:Value} {us:List zD} (h:zr w B u us) (v:Value) (hne:u.ownBlock ≠ some g):zr (w.setCell ⟨g,j,none⟩ v) B u us:=zIZ h g j v hne
theorem zHK (xs:List zD):∀ m i,i <= m -> ∃ r,er xs m = er xs i ++ r
 | 0,i,h=>by
  obtain rfl:i = 0:=by omega
  exact ⟨[],rfl⟩
 | m + 1,i,h=>by
  by_cases e:i = m + 1
  ·subst e; exact ⟨[],by simp⟩
  ·obtain ⟨r,hr⟩:=zHK xs m i (by omega)
   by_cases h6:(atN xs m).k = 6
   ·rw [zIW h6]; exact ⟨r,hr⟩
   ·rw [zCh h6,hr]; exact ⟨r ++ [erN xs (atN xs m)],by simp⟩
theorem zMa {xs:List zD} {m i:Nat} (hi:i < m) (h6:(atN xs i).k ≠ 6):cnt xs i < (er xs m).length /\ atN (er xs m) (cnt xs i) = erN xs (atN xs i):=by
 obtain ⟨r,hr⟩:=zHK xs m (i + 1) hi
 have hl:=zBO xs i
 rw [zCh h6] at hr
 rw [hr]
 refine ⟨by simp [hl],?_⟩
 unfold atN
 simp [List.getD,List.getElem?_append,hl]
theorem zEj {xs:List zD} {i:Nat} (h6:(atN xs i).k ≠ 6):cnt xs (i + 1) = cnt xs i + 1:=by
 show (if (atN xs i).k = 6 then cnt xs i else cnt xs i + 1) = _
 rw [if_neg h6]
theorem zLR {xs:List zD} {i:Nat} (h6:(atN xs i).k = 6):cnt xs (i + 1) = cnt xs i:=by
 show (if (atN xs i).k = 6 then cnt xs i else cnt xs i + 1) = _
 rw [if_pos h6]
theorem zGE {w w':World} {b off:Nat} {xs:List zD} (h:zAs w b off xs) (hb:w'.heap[b]? = w.heap[b]?):zAs w' b off xs:=fun i hi=>by
 obtain ⟨h0,h1,h2,h3⟩:=h i hi
 exact ⟨(World.cell?_of_block (w:=w) hb).trans h0,(World.cell?_of_block (w:=w) hb).trans h1,(World.cell?_of_block (w:=w) hb).trans h2,(World.cell?_of_block (w:=w) hb).trans h3⟩
theorem K2.nod {w w':World} {rp g N:Nat} {o:zD} (h:K2 w w' rp g) (hn:zp w N o) (h1:N ≠ rp) (h2:N ≠ g):zp w' N o:=by
 have hlt:N < w.heap.size:=block_lt_of_cell hn.1
 have c:=h.cell hlt h1 h2
 have f:=h.frozen hlt h1 h2
 obtain ⟨a0,a1,a2,a3,a4,a5⟩:=hn
 exact ⟨(c 0).trans a0,(c 1).trans a1,(c 2).trans a2,(c 3).trans a3,(f 2).trans a4,(f 3).trans a5⟩
theorem K2.set {w w':World} {rp g b o:Nat} (h:K2 w w' rp g) (v:Value) (hb:w.heap.size <= b):K2 w (w'.setCell ⟨b,o,none⟩ v) rp g:=
 ⟨h.os,h.tape,h.output,by simpa [World.setCell] using h.size,fun i hi h1 h2=>(Below.heap_setCell _ _ _ _ (by show i ≠ b; omega)).trans (h.block i hi h1 h2)⟩
def zMb (rp cap:Nat) (a:Option Addr) (bs:List UInt8) (bz cz:Nat) (zs:List zD) (B j p q:Nat) (us vs:List zD):Prop:=
 ∀ (g c:Nat) (W:World),zAs W bz 0 zs -> B <= W.heap.size -> Zf W B g c us -> RdS W rp a cap bs p ->
  Calls Tryz.prog 59 #[.pointer (some ⟨rp,0,none⟩),.slice (some ⟨bz,0,none⟩) zs.length cz,.int .i64 (j:Int),.slice (some ⟨g,0,none⟩) us.length c] W (zDs W rp cap a bs B g q vs)
def zPe (rp cap:Nat) (a:Option Addr) (bs:List UInt8) (bz cz:Nat) (zs:List zD) (B:Nat) (k:Int) (t:ByteArray) (ja jb p p2:Nat) (us us2:List zD) (m:zD):Prop:=
 (zY k = 0 /\ us2 = us /\ p2 = p /\ m = ⟨k,t,0,0⟩) \/
 (zY k = 1 /\ zMb rp cap a bs bz cz zs B ja p p2 us us2 /\ m = ⟨k,t,(us2.length:Int) - 1,0⟩) \/
 (zY k = 2 /\ ∃ p1 us1,zMb rp cap a bs bz cz zs B ja p p1 us us1 /\ zMb rp cap a bs bz cz zs B jb p1 p2 us1 us2 /\ m = ⟨k,t,(us1.length:Int) - 1,(us2.length:Int) - 1⟩ /\ us1.length <= 90000)
theorem zJ4 (rp cap:Nat) (a:Option Addr) (bs:List UInt8) (hl:bs.length <= 1200) (bz cz i:Nat) (zs:List zD) (k:Int) (t:ByteArray) (ja jb:Nat) (B p p2:Nat) (us us2 us3 vs:List zD) (m:zD) (hbz:bz < B) (hrp:rp < B) (hne:bz ≠ rp) (hi:i < zs.length) (hzl:zs.length <= 20000) (ho:atN zs i = ⟨k,t,(ja:Int),(jb:Int)⟩) (hlen:us.length <= 90000) (hlen2:us2.length <= 90000) (hc:zPe rp cap a bs bz cz zs B k t ja jb p p2 us us2 m)
  (hu3:us3 = us2 ++ [m]) (hvs:vs = if nxt bs p2 % 6 = 5 then us3 ++ [⟨6,ByteArray.empty,(us3.length:Int) - 1,0⟩] else us3):zMb rp cap a bs bz cz zs B i p (adv bs p2) us vs:=by
 intro g c w hwz hB hr hd
 obtain ⟨i0,hi0,hz0,hz1,hz2⟩:=zQ zCW
 have HI:=zB hi0
 have HZ:=zB (And.intro hz0 (And.intro hz1 hz2))
 have hg:=hr.lt
 have hjI:(i:Int) < (zs.length:Int):=by omega
 obtain ⟨h0,h1,h2,h3⟩:=hwz i hi
 rw [ho] at h0 h1 h2 h3
 simp only [Nat.zero_add] at h0 h1 h2 h3
 have hl3:us3.length <= 90001:=by rw [hu3]; simp; omega
 have HR:=zB hr
 have HD:=zB hd
 have HC:=zB hc
 have HWZ:=zB hwz
 have HU3:=zB hu3
 have HVS:=zB hvs
 clear hi0 hz0 hz1 hz2 hr hd hc hwz ho hu3 hvs
 go_enter Tryz.func59,Tryz.ntmps59
 go_wp2_with fail
 have HB0:=zB (show Below w.heap.size w ((w.alloc (.cells #[.int .i64 k,.string t,.int .i64 (ja:Int),.int .i64 (jb:Int)] 120)).alloc (.cells #[.int .i64 k,.string t,.int .i64 0,.int .i64 0] 120)) from (zC _ _).alloc (by simp) _)
 obtain ⟨W0,hW0⟩:∃ W0,W0 = ((w.alloc (.cells #[.int .i64 k,.string t,.int .i64 (ja:Int),.int .i64 (jb:Int)] 120)).alloc (.cells #[.int .i64 k,.string t,.int .i64 0,.int .i64 0] 120)):=⟨_,rfl⟩
 have HN0:=zB (show zp W0 w.heap.size ⟨k,t,(ja:Int),(jb:Int)⟩ by rw [hW0]; exact ⟨by simp [go_sem],by simp [go_sem],by simp [go_sem],by simp [go_sem],by simp [go_sem],by simp [go_sem]⟩)
 have HM0:=zB (show zp W0 (w.heap.size + 1) ⟨k,t,0,0⟩ by rw [hW0]; exact ⟨by simp [go_sem],by simp [go_sem],by simp [go_sem],by simp [go_sem],by simp [go_sem],by simp [go_sem]⟩)
 have HK0:=zB (show K2 w W0 rp g by rw [hW0]; exact K2.ofB (zA HB0))
 have HR0:=zB (show Zf W0 B g c us by rw [hW0]; exact (zA HR).below (zA HB0))
 have HD0:=zB (show RdS W0 rp a cap bs p by rw [hW0]; exact (zA HD).below (zA HB0))
 have HW0:=zB (show zAs W0 bz 0 zs by rw [hW0]; exact (zA HWZ).below (zA HB0) (by omega))
 have z0:w.heap.size + 2 = W0.heap.size:=by rw [hW0]; simp
 rw [<- hW0]
 obtain ⟨n0,n1,n2,n3,_,_⟩:=zA HN0
 obtain ⟨m0,m1,m2,m3,f2,f3⟩:=zA HM0
 simp only at n0 n1 n2 n3 m0 m1 m2 m3
 clear HR HD HWZ HB0 hW0 h0 h1 h2 h3
 rcases zA HC with ⟨hk,hu2,hp2,hme⟩ | ⟨hk,hrec,hme⟩ | ⟨hk,p1,us1,hrec,hrec2,hme,hl1⟩
 ·have HK:=zB hk
  have HME:=zB hme
  subst hu2
  subst hp2
  clear hk hme HC
  (with_reducible refine (zN (zA HK) 0 rfl _).mono ?_)
  rintro e w' ⟨rfl,hw'⟩
  subst hw'
  go_wp2_with fail
  (with_reducible refine (zN (zA HK) 0 rfl _).mono ?_)
  rintro e W2 ⟨rfl,hw'⟩
  have HM2:=zB (show zp W2 (w.heap.size + 1) m by rw [zA HME,hw']; exact zA HM0)
  obtain ⟨g2,hg2⟩:∃ g2,g2 = g:=⟨_,rfl⟩
  obtain ⟨c2,hc2⟩:∃ c2,c2 = c:=⟨_,rfl⟩
  have HR2:=zB (show Zf W2 B g2 c2 us2 by rw [hw',hg2,hc2]; exact zA HR0)
  have HD2:=zB (show RdS W2 rp a cap bs p2 by rw [hw']; exact zA HD0)
  have HK2:=zB (show K2 w W2 rp g by rw [hw']; exact zA HK0)
  have z2:w.heap.size + 2 <= W2.heap.size:=by rw [hw']; omega
  have hgg:g2 = g \/ w.heap.size + 2 <= g2:=Or.inl hg2
  have PR:zDs w rp cap a bs B g (adv bs p2) vs = zDs w rp cap a bs B g (adv bs p2) vs:=rfl
  rw [<- hc2]
  have hsl:Value.slice (some ⟨g,0,none⟩) us2.length c2 = Value.slice (some ⟨g2,0,none⟩) us2.length c2:=by rw [hg2]
  rw [hsl]
  clear hg2 hc2 hsl PR hw' HM0 HN0 HR0 HD0 HW0 HK0 n0 n1 n2 n3 m0 m1 m2 m3 f2 f3
  obtain ⟨mk0,mk1,mk2,mk3,_,_⟩:=zA HM2
  have hl2:=(zA HR2).lt
  go_wp2_with (at_builtin; refine wpList_append_own_at _ rfl (.tmp 48) (.tmp 50) 95 rfl B 120 i0 _ 4 40 Tryz.underlying95 (zA HI) (zA HZ).1 (zA HZ).2.1 (zA HZ).2.2 rfl (by decide) _ us2.length (zM us2) rfl ((zA HR2).below (zC _ _)) ⟨W2.heap.size,0,none⟩ 1 1 (zM [m]) rfl rfl (ZD W2 m) (zR _) ?b1 ?b2 ?b3 ?next)
  case b1=>unfold maxLen; omega
  case b2=>omega
  case b3=>simp; omega
  case next=>
   intro v4 w4 hown4 hgrow4 hnil4 hat4
   obtain ⟨g4,c4,rfl,hr4⟩:=Zf.snoc hown4 (by simp [hnil4]) (zA HU3)
   have HR4:=zB hr4
   have hl4:=hr4.lt
   have hgr:World.grownBy _ w4 (some g2):=hgrow4
   have HD4:=zB (((zA HD2).below (zC W2 (.cells #[.int .i64 m.k,.string m.t,.int .i64 m.a,.int .i64 m.b] 120))).row hgr (by omega))
   have HK4:=zB (((zA HK2).trans (K2.ofB (zC W2 (.cells #[.int .i64 m.k,.string m.t,.int .i64 m.a,.int .i64 m.b] 120))) (Or.inl rfl)).row hgr (by omega))
   have hgg4:g4 = g \/ w.heap.size <= g4:=by simp [Value.ownBlock] at hat4; omega
   clear hown4 hgrow4 hgr hnil4 hr4 hat4 mk0 mk1 mk2 mk3 HM2 HR2 HD2 HK2
   go_wp2_with fail
   (with_reducible refine (Z4 rp cap p2 a bs _ (zA HD4) hl).mono ?_)
   rintro e w5 ⟨⟨v,rfl,hv,HV⟩,H5,HP5⟩
   have z5:=(zA HP5).size
   have HR5:=zB ((zA HR4).kept (zA HP5) (by omega))
   have HK5:=zB ((zA HK4).trans (K2.of1 (g:=g) (zA HP5)) (Or.inl rfl))
   have z5':=(zA HK5).size
   clear HR4 HD4 HK4 HP5
   by_cases h6:v % 6 = 5
   ·have e6:((v:Int) % 6 == 5) = true:=by simp; omega
    have HV2:=zB (show vs = us3 ++ [⟨6,⟨#[]⟩,(us3.length:Int) - 1,0⟩] by rw [zA HVS,<- zA HV,if_pos h6]; rfl)
    clear h6 HVS
    go_wp2_with (at_builtin; refine wpList_append_own_at _ rfl (.tmp 56) (.tmp 61) 95 rfl B 120 i0 _ 4 40 Tryz.underlying95 (zA HI) (zA HZ).1 (zA HZ).2.1 (zA HZ).2.2 rfl (by decide) _ us3.length (zM us3) rfl ((zA HR5).below (zC _ _)) ⟨w5.heap.size,0,none⟩ 1 1 (zM [⟨6,⟨#[]⟩,(us3.length:Int) - 1,0⟩]) rfl rfl (ZD w5 ⟨6,⟨#[]⟩,(us3.length:Int) - 1,0⟩) (zR _) ?b1 ?b2 ?b3 ?next)
    case b1=>unfold maxLen; omega
    case b2=>omega
    case b3=>simp; omega
    case next=>
     intro v6 w6 hown6 hgrow6 hnil6 hat6
     obtain ⟨g6,c6,rfl,hr6⟩:=Zf.snoc hown6 (by simp [hnil6]) (zA HV2)
     have HR6:=zB hr6
     have hgr:World.grownBy _ w6 (some g4):=hgrow6
     have HD6:=zB (((zA H5).below (zC w5 (.cells #[.int .i64 6,.string ⟨#[]⟩,.int .i64 ((us3.length:Int) - 1),.int .i64 0] 120))).row hgr (by omega))
     have HK6:=zB (((zA HK5).trans (K2.ofB (zC w5 _)) (Or.inl rfl)).row hgr (by omega))
     have hgg6:g6 = g \/ w.heap.size <= g6:=by simp [Value.ownBlock] at hat6; omega
     clear hown6 hgrow6 hgr hnil6 hr6 hat6
     go_wp2_with fail
     go_ret
     exact ⟨g6,c6,rfl,HR6,hgg6,HD6,HK6⟩
   ·have e6:((v:Int) % 6 == 5) = false:=by simp; omega
    obtain rfl:vs = us3:=by rw [zA HVS,<- zA HV,if_neg h6]
    clear h6 HVS HU3
    go_wp2_with fail
    go_ret
    exact ⟨g4,c4,rfl,HR5,hgg4,H5,HK5⟩
 ·have HK:=zB hk
  have HME:=zB hme
  have HREC:=zB hrec
  clear hk hme HC hrec
  (with_reducible refine (zN (zA HK) 1 rfl _).mono ?_)
  rintro e w' ⟨rfl,hw'⟩
  subst hw'
  go_wp2_with fail
  have HXC:=(zA HREC) g c _ (zA HW0) (by omega) (zA HR0) (zA HD0)
  (with_reducible refine HXC.mono ?_)
  clear HXC
  rintro e w5 ⟨g2,c2,rfl,HR5,hg5,HD5,HK5⟩
  have z5:=(zA HK5).size
  have hl5:=(zA HR5).lt
  have HN5:=zB ((zA HK5).nod (zA HN0) (by omega) (by omega))
  have HM5:=zB ((zA HK5).nod (zA HM0) (by omega) (by omega))
  have HK6:=zB ((zA HK0).trans (zA HK5) (Or.inl rfl))
  clear n0 n1 n2 n3 m0 m1 m2 m3 f2 f3 HN0 HM0 HK5 HK0 HR0 HD0 HW0
  obtain ⟨n0,n1,n2,n3,_,_⟩:=zA HN5
  obtain ⟨m0,m1,m2,m3,f2,f3⟩:=zA HM5
  simp only at n0 n1 n2 n3 m0 m1 m2 m3
  go_wp2_with fail
  (with_reducible refine (zN (zA HK) 1 rfl _).mono ?_)
  rintro e W2 ⟨rfl,hw'⟩
  have HM2:=zB (show zp W2 (w.heap.size + 1) m by rw [zA HME,hw']; exact (zA HM5).set2 _)
  have HR2:=zB (show Zf W2 B g2 c2 us2 by rw [hw']; exact (zA HR5).set _ _ _ (by omega))
  have HD2:=zB (show RdS W2 rp a cap bs p2 by rw [hw']; exact (zA HD5).set _ _ _ (by omega))
  have HK2:=zB (show K2 w W2 rp g by rw [hw']; exact (zA HK6).set _ (by omega))
  have z2:w.heap.size + 2 <= W2.heap.size:=by rw [hw']; simp [World.setCell]; omega
  have hgg:g2 = g \/ w.heap.size + 2 <= g2:=by omega
  clear hw' HM5 HN5 HR5 HD5 HK6 n0 n1 n2 n3 m0 m1 m2 m3 f2 f3
  obtain ⟨mk0,mk1,mk2,mk3,_,_⟩:=zA HM2
  have hl2:=(zA HR2).lt
  go_wp2_with (at_builtin; refine wpList_append_own_at _ rfl (.tmp 48) (.tmp 50) 95 rfl B 120 i0 _ 4 40 Tryz.underlying95 (zA HI) (zA HZ).1 (zA HZ).2.1 (zA HZ).2.2 rfl (by decide) _ us2.length (zM us2) rfl ((zA HR2).below (zC _ _)) ⟨W2.heap.size,0,none⟩ 1 1 (zM [m]) rfl rfl (ZD W2 m) (zR _) ?b1 ?b2 ?b3 ?next)
  case b1=>unfold maxLen; omega
  case b2=>omega
  case b3=>simp; omega
  case next=>
   intro v4 w4 hown4 hgrow4 hnil4 hat4
   obtain ⟨g4,c4,rfl,hr4⟩:=Zf.snoc hown4 (by simp [hnil4]) (zA HU3)
   have HR4:=zB hr4
   have hl4:=hr4.lt
   have hgr:World.grownBy _ w4 (some g2):=hgrow4
   have HD4:=zB (((zA HD2).below (zC W2 (.cells #[.int .i64 m.k,.string m.t,.int .i64 m.a,.int .i64 m.b] 120))).row hgr (by omega))
   have HK4:=zB (((zA HK2).trans (K2.ofB (zC W2 (.cells #[.int .i64 m.k,.string m.t,.int .i64 m.a,.int .i64 m.b] 120))) (Or.inl rfl)).row hgr (by omega))
   have hgg4:g4 = g \/ w.heap.size <= g4:=by simp [Value.ownBlock] at hat4; omega
   clear hown4 hgrow4 hgr hnil4 hr4 hat4 mk0 mk1 mk2 mk3 HM2 HR2 HD2 HK2
   go_wp2_with fail
   (with_reducible refine (Z4 rp cap p2 a bs _ (zA HD4) hl).mono ?_)
   rintro e w5 ⟨⟨v,rfl,hv,HV⟩,H5,HP5⟩
   have z5:=(zA HP5).size
   have HR5:=zB ((zA HR4).kept (zA HP5) (by omega))
   have HK5:=zB ((zA HK4).trans (K2.of1 (g:=g) (zA HP5)) (Or.inl rfl))
   have z5':=(zA HK5).size
   clear HR4 HD4 HK4 HP5
   by_cases h6:v % 6 = 5
   ·have e6:((v:Int) % 6 == 5) = true:=by simp; omega
    have HV2:=zB (show vs = us3 ++ [⟨6,⟨#[]⟩,(us3.length:Int) - 1,0⟩] by rw [zA HVS,<- zA HV,if_pos h6]; rfl)
    clear h6 HVS
    go_wp2_with (at_builtin; refine wpList_append_own_at _ rfl (.tmp 56) (.tmp 61) 95 rfl B 120 i0 _ 4 40 Tryz.underlying95 (zA HI) (zA HZ).1 (zA HZ).2.1 (zA HZ).2.2 rfl (by decide) _ us3.length (zM us3) rfl ((zA HR5).below (zC _ _)) ⟨w5.heap.size,0,none⟩ 1 1 (zM [⟨6,⟨#[]⟩,(us3.length:Int) - 1,0⟩]) rfl rfl (ZD w5 ⟨6,⟨#[]⟩,(us3.length:Int) - 1,0⟩) (zR _) ?b1 ?b2 ?b3 ?next)
    case b1=>unfold maxLen; omega
    case b2=>omega
    case b3=>simp; omega
    case next=>
     intro v6 w6 hown6 hgrow6 hnil6 hat6
     obtain ⟨g6,c6,rfl,hr6⟩:=Zf.snoc hown6 (by simp [hnil6]) (zA HV2)
     have HR6:=zB hr6
     have hgr:World.grownBy _ w6 (some g4):=hgrow6
     have HD6:=zB (((zA H5).below (zC w5 (.cells #[.int .i64 6,.string ⟨#[]⟩,.int .i64 ((us3.length:Int) - 1),.int .i64 0] 120))).row hgr (by omega))
     have HK6:=zB (((zA HK5).trans (K2.ofB (zC w5 _)) (Or.inl rfl)).row hgr (by omega))
     have hgg6:g6 = g \/ w.heap.size <= g6:=by simp [Value.ownBlock] at hat6; omega
     clear hown6 hgrow6 hgr hnil6 hr6 hat6
     go_wp2_with fail
     go_ret
     exact ⟨g6,c6,rfl,HR6,hgg6,HD6,HK6⟩
   ·have e6:((v:Int) % 6 == 5) = false:=by simp; omega
    obtain rfl:vs = us3:=by rw [zA HVS,<- zA HV,if_neg h6]
    clear h6 HVS HU3
    go_wp2_with fail
    go_ret
    exact ⟨g4,c4,rfl,HR5,hgg4,H5,HK5⟩
 ·have HK:=zB hk
  have HME:=zB hme
  have HREC:=zB hrec
  have HREC2:=zB hrec2
  subst hme
  clear HME hk HC hrec hrec2
  (with_reducible refine (zN (zA HK) 2 rfl _).mono ?_)
  rintro e w' ⟨rfl,hw'⟩
  subst hw'
  go_wp2_with fail
  have HXC:=(zA HREC) g c _ (zA HW0) (by omega) (zA HR0) (zA HD0)
  (with_reducible refine HXC.mono ?_)
  clear HXC
  rintro e w5 ⟨g1,c1,rfl,HR5,hg5,HD5,HK5⟩
  have z5:=(zA HK5).size
  have hl5:=(zA HR5).lt
  have HN5:=zB ((zA HK5).nod (zA HN0) (by omega) (by omega))
  have HM5:=zB ((zA HK5).nod (zA HM0) (by omega) (by omega))
  have HW5:=zB (zGE (zA HW0) ((zA HK5).block bz (by omega) (by omega) (by omega)))
  have HK6:=zB ((zA HK0).trans (zA HK5) (Or.inl rfl))
  clear n0 n1 n2 n3 m0 m1 m2 m3 f2 f3 HN0 HM0 HK5 HK0 HR0 HD0 HW0
  obtain ⟨n0,n1,n2,n3,_,_⟩:=zA HN5
  obtain ⟨m0,m1,m2,m3,f2,f3⟩:=zA HM5
  simp only at n0 n1 n2 n3 m0 m1 m2 m3
  go_wp2_with fail
  (with_reducible refine (zN (zA HK) 2 rfl _).mono ?_)
  rintro e W6 ⟨rfl,hw'⟩
  have HM6:=zB (show zp W6 (w.heap.size + 1) ⟨k,t,(us1.length:Int) - 1,0⟩ by rw [hw']; exact (zA HM5).set2 _)
  have HN6:=zB (show zp W6 w.heap.size ⟨k,t,(ja:Int),(jb:Int)⟩ by rw [hw']; exact (zA HN5).other _ (by omega))
  have HR6:=zB (show Zf W6 B g1 c1 us1 by rw [hw']; exact (zA HR5).set _ _ _ (by omega))
  have HD6:=zB (show RdS W6 rp a cap bs p1 by rw [hw']; exact (zA HD5).set _ _ _ (by omega))
  have HK7:=zB (show K2 w W6 rp g by rw [hw']; exact (zA HK6).set _ (by omega))
  have HW6:=zB (show zAs W6 bz 0 zs by rw [hw']; exact zGE (zA HW5) (Below.heap_setCell _ _ _ _ (by show bz ≠ w.heap.size + 1; omega)))
  have z6:w5.heap.size = W6.heap.size:=by rw [hw']; simp [World.setCell]
  clear hw' HM5 HN5 HR5 HD5 HK6 HW5 n0 n1 n2 n3 m0 m1 m2 m3 f2 f3
  obtain ⟨n0,n1,n2,n3,_,_⟩:=zA HN6
  simp only at n0 n1 n2 n3
  go_wp2_with fail
  have HXC:=(zA HREC2) g1 c1 W6 (zA HW6) (by omega) (zA HR6) (zA HD6)
  (with_reducible refine HXC.mono ?_)
  clear HXC
  rintro e w7 ⟨g2,c2,rfl,HR7,hg7,HD7,HK8⟩
  have z7:=(zA HK8).size
  have hl7:=(zA HR7).lt
  have HM7:=zB ((zA HK8).nod (zA HM6) (by omega) (by omega))
  have HK9:=zB ((zA HK7).trans (zA HK8) (by omega))
  obtain ⟨m0,m1,m2,m3,f2,f3⟩:=zA HM7
  simp only at m0 m1 m2 m3
  obtain ⟨W2,hw'⟩:∃ W2,W2 = w7.setCell ⟨w.heap.size + 1,3,none⟩ (.int .i64 ((us2.length:Int) - 1)):=⟨_,rfl⟩
  have HM2:=zB (show zp W2 (w.heap.size + 1) ⟨k,t,(us1.length:Int) - 1,(us2.length:Int) - 1⟩ by rw [hw']; exact (zA HM7).set3 _)
  have HR2:=zB (show Zf W2 B g2 c2 us2 by rw [hw']; exact (zA HR7).set _ _ _ (by omega))
  have HD2:=zB (show RdS W2 rp a cap bs p2 by rw [hw']; exact (zA HD7).set _ _ _ (by omega))
  have HK2:=zB (show K2 w W2 rp g by rw [hw']; exact (zA HK9).set _ (by omega))
  have z2:w.heap.size + 2 <= W2.heap.size:=by rw [hw']; simp [World.setCell]; omega
  have hgg:g2 = g \/ w.heap.size + 2 <= g2:=by omega
  have hz27:w7.heap.size = W2.heap.size:=by rw [hw']; simp [World.setCell]
  have HWE:=zB hw'
  clear hw' HN6 HM6 HR6 HD6 HK7 HW6 HR7 HD7 HK8 HK9 n0 n1 n2 n3
  have hl2:=(zA HR2).lt
  go_wp2_with (at_builtin; rw [<- zA HWE]; refine wpList_append_own_at _ rfl (.tmp 48) (.tmp 50) 95 rfl B 120 i0 _ 4 40 Tryz.underlying95 (zA HI) (zA HZ).1 (zA HZ).2.1 (zA HZ).2.2 rfl (by decide) _ us2.length (zM us2) rfl ((zA HR2).below (zC _ _)) ⟨W2.heap.size,0,none⟩ 1 1 (zM [⟨k,t,(us1.length:Int) - 1,(us2.length:Int) - 1⟩]) rfl rfl (ZD W2 ⟨k,t,(us1.length:Int) - 1,(us2.length:Int) - 1⟩) (zR _) ?b1 ?b2 ?b3 ?next)
  case b1=>unfold maxLen; omega
  case b2=>omega
  case b3=>simp; omega
  case next=>
   intro v4 w4 hown4 hgrow4 hnil4 hat4
   obtain ⟨g4,c4,rfl,hr4⟩:=Zf.snoc hown4 (by simp [hnil4]) (zA HU3)
   have HR4:=zB hr4
   have hl4:=hr4.lt
   have hgr:World.grownBy _ w4 (some g2):=hgrow4
   have HD4:=zB (((zA HD2).below (zC W2 (.cells #[.int .i64 k,.string t,.int .i64 ((us1.length:Int) - 1),.int .i64 ((us2.length:Int) - 1)] 120))).row hgr (by omega))
   have HK4:=zB (((zA HK2).trans (K2.ofB (zC W2 (.cells #[.int .i64 k,.string t,.int .i64 ((us1.length:Int) - 1),.int .i64 ((us2.length:Int) - 1)] 120))) (Or.inl rfl)).row hgr (by omega))
   have hgg4:g4 = g \/ w.heap.size <= g4:=by simp [Value.ownBlock] at hat4; omega
   clear hown4 hgrow4 hgr hnil4 hr4 hat4 m0 m1 m2 m3 f2 f3 HM7 HWE HM2 HR2 HD2 HK2
   go_wp2_with fail
   (with_reducible refine (Z4 rp cap p2 a bs _ (zA HD4) hl).mono ?_)
   rintro e w5 ⟨⟨v,rfl,hv,HV⟩,H5,HP5⟩
   have z5:=(zA HP5).size
   have HR5:=zB ((zA HR4).kept (zA HP5) (by omega))
   have HK5:=zB ((zA HK4).trans (K2.of1 (g:=g) (zA HP5)) (Or.inl rfl))
   have z5':=(zA HK5).size
   clear HR4 HD4 HK4 HP5
   by_cases h6:v % 6 = 5
   ·have e6:((v:Int) % 6 == 5) = true:=by simp; omega
    have HV2:=zB (show vs = us3 ++ [⟨6,⟨#[]⟩,(us3.length:Int) - 1,0⟩] by rw [zA HVS,<- zA HV,if_pos h6]; rfl)
    clear h6 HVS
    go_wp2_with (at_builtin; refine wpList_append_own_at _ rfl (.tmp 56) (.tmp 61) 95 rfl B 120 i0 _ 4 40 Tryz.underlying95 (zA HI) (zA HZ).1 (zA HZ).2.1 (zA HZ).2.2 rfl (by decide) _ us3.length (zM us3) rfl ((zA HR5).below (zC _ _)) ⟨w5.heap.size,0,none⟩ 1 1 (zM [⟨6,⟨#[]⟩,(us3.length:Int) - 1,0⟩]) rfl rfl (ZD w5 ⟨6,⟨#[]⟩,(us3.length:Int) - 1,0⟩) (zR _) ?b1 ?b2 ?b3 ?next)
    case b1=>unfold maxLen; omega
    case b2=>omega
    case b3=>simp; omega
    case next=>
     intro v6 w6 hown6 hgrow6 hnil6 hat6
     obtain ⟨g6,c6,rfl,hr6⟩:=Zf.snoc hown6 (by simp [hnil6]) (zA HV2)
     have HR6:=zB hr6
     have hgr:World.grownBy _ w6 (some g4):=hgrow6
     have HD6:=zB (((zA H5).below (zC w5 (.cells #[.int .i64 6,.string ⟨#[]⟩,.int .i64 ((us3.length:Int) - 1),.int .i64 0] 120))).row hgr (by omega))
     have HK6:=zB (((zA HK5).trans (K2.ofB (zC w5 _)) (Or.inl rfl)).row hgr (by omega))
     have hgg6:g6 = g \/ w.heap.size <= g6:=by simp [Value.ownBlock] at hat6; omega
     clear hown6 hgrow6 hgr hnil6 hr6 hat6
     go_wp2_with fail
     go_ret
     exact ⟨g6,c6,rfl,HR6,hgg6,HD6,HK6⟩
   ·have e6:((v:Int) % 6 == 5) = false:=by simp; omega
    obtain rfl:vs = us3:=by rw [zA HVS,<- zA HV,if_neg h6]
    clear h6 HVS HU3
    go_wp2_with fail
    go_ret
    exact ⟨g4,c4,rfl,HR5,hgg4,H5,HK5⟩
end Go.Proofs.YtgiemobdmbijiaaGreatDoor
namespace Go.Proofs.YtgiemobdmbijiaaGreatDoor
set_option linter.unusedSimpArgs false
set_option linter.unusedVariables false
set_option maxHeartbeats 16000000
set_option maxRecDepth 100000
open Go.RowKit
open Go.Deep (BT)
theorem zJ5 (rp cap:Nat) (a:Option Addr) (bs:List UInt8) (hl:bs.length <= 1200) (bz cz:Nat) (zs:List zD) (B:Nat) (hbz:bz < B) (hrp:rp < B) (hne:bz ≠ rp) (hzl:zs.length <= 20000):∀ (T:ET),Sh T -> ∀ (s:Nat) (us:List zD) (p:Nat),zFA zs T s -> s + tsz T <= zs.length -> us.length + 2 * tsz T <= 80000 ->
  zMb rp cap a bs bz cz zs B (s + tsz T - 1) p (moT bs T p).1 us (us ++ nd (moT bs T p).2 us.length):=by
 intro T
 induction T with
 | nil=>intro h; exact h.elim
 | node b o t l r ihl ihr=>
  rintro ⟨rfl,h⟩ s us p ⟨h1,h2,h3⟩ hz hlen
  simp only [tsz] at hz hlen
  have e:s + tsz (.node b 0 t l r) - 1 = s + tsz l + tsz r:=by simp only [tsz]; omega
  rw [e]
  have hcell:∀ ja jb:Nat,(if zY (b:Int) = 0 then (0:Int) else ((s + tsz l:Nat):Int) - 1) = (ja:Int) -> (if zY (b:Int) = 2 then ((s + tsz l + tsz r:Nat):Int) - 1 else 0) = (jb:Int) -> atN zs (s + tsz l + tsz r) = ⟨(b:Int),t,(ja:Int),(jb:Int)⟩:=fun ja jb ha hb=>by
   rw [h3,tN,ha,hb]
  have z1:=zFz bs l p
  have z2:=zFz bs r (moT bs l p).1
  obtain ⟨L,hL⟩:∃ L,L = (moT bs l p).2:=⟨_,rfl⟩
  obtain ⟨p1,hp1⟩:∃ p1,p1 = (moT bs l p).1:=⟨_,rfl⟩
  obtain ⟨R,hR⟩:∃ R,R = (moT bs r p1).2:=⟨_,rfl⟩
  obtain ⟨p2,hp2⟩:∃ p2,p2 = (moT bs r p1).1:=⟨_,rfl⟩
  have em:moT bs (.node b 0 t l r) p = (adv bs p2,if nxt bs p2 % 6 = 5 then .node 6 0 ByteArray.empty (.node b 0 t L R) .nil else .node b 0 t L R):=by
   simp only [moT,<- hp1,<- hL,<- hp2,<- hR]
  rw [em]
  rw [<- hp1] at z2
  rw [<- hL] at z1
  rw [<- hR] at z2
  obtain ⟨us1,hu1⟩:∃ us1,us1 = us ++ nd L us.length:=⟨_,rfl⟩
  have hl1:us1.length = us.length + tsz L:=by rw [hu1,List.length_append,ZI]
  obtain ⟨us2,hu2⟩:∃ us2,us2 = us1 ++ nd R us1.length:=⟨_,rfl⟩
  have hl2:us2.length = us.length + tsz L + tsz R:=by rw [hu2,List.length_append,ZI]; omega
  obtain ⟨us3,hu3⟩:∃ us3,us3 = us2 ++ [tN b t L R us.length]:=⟨_,rfl⟩
  have hl3:us3.length = us.length + tsz L + tsz R + 1:=by rw [hu3,List.length_append,hl2]; rfl
  have hnd:us ++ nd (.node b 0 t L R) us.length = us3:=by
   rw [hu3,hu2,hl1,hu1]
   simp [nd]
  have hvs:us ++ nd (adv bs p2,if nxt bs p2 % 6 = 5 then .node 6 0 ByteArray.empty (.node b 0 t L R) .nil else .node b 0 t L R).2 us.length = if nxt bs p2 % 6 = 5 then us3 ++ [⟨6,ByteArray.empty,(us3.length:Int) - 1,0⟩] else us3:=by
   simp only
   split
   ·have:us ++ nd (.node 6 0 ByteArray.empty (.node b 0 t L R) .nil) us.length = (us ++ nd (.node b 0 t L R) us.length) ++ [tN 6 ByteArray.empty (.node b 0 t L R) .nil us.length]:=by
     rw [List.append_assoc]
     congr 1
     simp [nd]
    rw [this,hnd]
    have:tN 6 ByteArray.empty (.node b 0 t L R) .nil us.length = ⟨6,ByteArray.empty,(us3.length:Int) - 1,0⟩:=by
     unfold tN
     rw [if_neg (by decide),if_neg (by decide),hl3]
     simp only [tsz]
     congr 1
     omega
    rw [this]
   ·exact hnd
  rcases h with ⟨hk,rfl,rfl⟩ | ⟨hk,hsl,rfl⟩ | ⟨hk,hsl,hsr⟩
  ·have hLn:L = .nil:=hL
   have hpp:p1 = p:=hp1
   subst hpp
   have hRn:R = .nil:=hR
   have hpq:p2 = p1:=hp2
   subst hLn hRn hpq
   have e1:us1 = us:=by rw [hu1]; simp [nd]
   have e2:us2 = us:=by rw [hu2,e1]; simp [nd]
   refine zJ4 rp cap a bs hl bz cz _ zs (b:Int) t 0 0 B p2 p2 us us2 us3 _ _ hbz hrp hne (by simp only [tsz] at hz ⊢; omega) hzl (hcell 0 0 (by rw [if_pos hk]; rfl) (by rw [if_neg (by omega)]; rfl)) (by omega) (by simp only [tsz] at hl2; omega) (Or.inl ⟨hk,e2,rfl,?_⟩) hu3 hvs
   unfold tN
   rw [if_pos hk,if_neg (by omega)]
  ·have hp:=hsl.pos
   have hRn:R = .nil:=hR
   have hpq:p2 = p1:=hp2
   subst hRn hpq
   have e2:us2 = us1:=by rw [hu2]; simp [nd]
   refine zJ4 rp cap a bs hl bz cz _ zs (b:Int) t (s + tsz l - 1) 0 B p p2 us us2 us3 _ _ hbz hrp hne (by simp only [tsz] at hz ⊢; omega) hzl (hcell _ 0 (by rw [if_neg (by omega)]; omega) (by rw [if_neg (by omega)]; rfl)) (by omega) (by simp only [tsz] at hl2; omega) (Or.inr (Or.inl ⟨hk,?_,?_⟩)) hu3 hvs
   ·rw [e2,hu1,hL,hp1]
    exact ihl hsl s us p h1 (by omega) (by omega)
   ·unfold tN
    rw [if_neg (by omega),if_neg (by omega),e2,hl1]
  ·have hp:=hsl.pos
   have hq:=hsr.pos
   refine zJ4 rp cap a bs hl bz cz _ zs (b:Int) t (s + tsz l - 1) (s + tsz l + tsz r - 1) B p p2 us us2 us3 _ _ hbz hrp hne (by omega) hzl (hcell _ _ (by rw [if_neg (by omega)]; omega) (by rw [if_pos hk]; omega)) (by omega) (by omega) (Or.inr (Or.inr ⟨hk,p1,us1,?_,?_,?_,by omega⟩)) hu3 hvs
   ·rw [hu1,hL,hp1]
    exact ihl hsl s us p h1 (by omega) (by omega)
   ·rw [hu2,hR,hp2]
    exact ihr hsr (s + tsz l) us1 p1 h2 (by omega) (by omega)
   ·unfold tN
    rw [if_neg (by omega),if_pos hk,hl1,hl2]
end Go.Proofs.YtgiemobdmbijiaaGreatDoor
namespace Go.Proofs.YtgiemobdmbijiaaGreatDoor
set_option linter.unusedSimpArgs false
set_option linter.unusedVariables false
set_option maxHeartbeats 16000000
set_option maxRecDepth 100000
open Go.RowKit
theorem zBt {w w':World} {b off:Nat} {xs:List zD} {row:Option Nat} (h:zAs w b off xs) (hg:w.grownBy w' row) (hb:b < w.heap.size) (hne:row ≠ some b):zAs w' b off xs:=fun i hi=>by
 obtain ⟨h0,h1,h2,h3⟩:=h i hi
 have e:=fun o=>zE hg hb hne o
 exact ⟨(e _).trans h0,(e _).trans h1,(e _).trans h2,(e _).trans h3⟩
end Go.Proofs.YtgiemobdmbijiaaGreatDoor
