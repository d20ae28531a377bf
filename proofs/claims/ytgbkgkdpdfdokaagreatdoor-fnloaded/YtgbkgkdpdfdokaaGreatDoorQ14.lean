import Derived.Test.YtgbkgkdpdfdokaaGreatDoorQ13
namespace Go.Proofs.YtgbkgkdpdfdokaaGreatDoor
set_option linter.all false
set_option maxHeartbeats 16000000
set_option maxRecDepth 100000
open Go.RowKit
variable {B:Nat} {us:List ByteArray} {v:Value} {w:World}
def zRz (w:JY) (ws:List JZ) (e:Ending) (w':JY):Prop:=
 ∃ g c,e = .returned (.slice (some ⟨g,0,none⟩) ws.length c)/\Hid (zZ w' w.heap.size (.slice (some ⟨g,0,none⟩) ws.length c) ws)/\Hid (Below w.heap.size w w')
def zLV (bz cz:Nat) (zs:List zD) (j:Nat) (ws:List JZ):Prop:=∀ W:JY,zBC W bz 0 zs->bz<W.heap.size ->
 Calls Tryz.prog 77 #[.slice (some ⟨bz,0,none⟩) zs.length cz,.int .i64 (j:Int)] W (zRz W ws)
def zR0 (bz cz:Nat) (zs:List zD) (k:Int) (t:JZ) (ja jb:Nat) (ws:List JZ):Prop:=
 (ze k=0/\ws=[t])\/(k=3/\∃ w1,0<w1.length/\zLV bz cz zs ja w1/\ws=[t]++w1)\/(k=6/\∃ w1,0<w1.length/\zLV bz cz zs ja w1/\ws=[opn]++w1++[zCR]) \/
 (k=5/\∃ w1,0<w1.length/\zLV bz cz zs ja w1/\ws=w1++[t])\/(k=4/\∃ w1 w2,0<w1.length/\0<w2.length/\zLV bz cz zs ja w1/\zLV bz cz zs jb w2/\ws=w1++[t]++w2)
theorem ZX {w1 w2:JY} {r:Option Nat} (h:Below B w w1) (hg:w1.grownBy w2 r) (hr:∀ k,r=some k->B<=k) (hB:B<=w1.heap.size):Below B w w2:=
 ⟨hg.os.trans h.os,hg.tape.trans h.tape,hg.output.trans h.output,yr h.size hg.size,fun i hi=>(hg.block i (yi hi hB) (fun e=>by have:=hr i e.symm; omega)).trans (h.block i hi)⟩
theorem zZ.news {g n c:Nat} (h:zZ w B (.slice (some ⟨g,0,none⟩) n c) us):∀ j u,(zI us)[j]?=some u->w.cell? ((⟨g,0,none⟩:Addr).add j)=some u:=by
 intro j u hj
 rw [Addr.add_mid]
 simp only [zI,List.getElem?_map,Option.map_eq_some_iff] at hj
 obtain ⟨x,hx,rfl⟩:=hj
 exact h.cells j x hx
theorem zZ.has (h:zZ w B v us) (h1:1<=us.length):∃ g c,v = .slice (some ⟨g,0,none⟩) us.length c:=by
 obtain ⟨_,⟨rfl,h2⟩ | ⟨g,cap,H,rfl,_⟩⟩:=h
 ·omega
 ·exact ⟨g,_,rfl⟩
theorem zZ.nil (hB:B<=w.heap.size):zZ (w.alloc (.cells #[] 9)) B (.slice (some ⟨w.heap.size,0,none⟩) 0 0) []:=
 yD (base:=B) (e:=9) (size:=1) w #[] 0 hB (yj _) rfl
theorem zZ.lit (hB:B<=w.heap.size) (t:JZ):zZ (w.alloc (.cells #[.string t] 9)) B (.slice (some ⟨w.heap.size,0,none⟩) 1 1) [t]:=
 yD (base:=B) (e:=9) (size:=1) w #[.string t] 1 hB (by unfold maxLen; omega) rfl
theorem zZ.join {vs ws:List JZ} (h:w.ownsRow B 9 1 v (us.length+vs.length) (zI us++zI vs)) (e:ws=us++vs):zZ w B v ws:=by
 subst e
 unfold zZ
 rw [Zx,ym]
 exact h
theorem zIZ {w':JY} {n:Nat} {xs:List Value} (h:w.ownsRow B 9 1 v n xs) (hb:Below w.heap.size w w'):w'.ownsRow B 9 1 v n xs:=
 World.ownsRow.kept h (row:=none) ⟨hb.os,hb.tape,hb.output,hb.size,fun i hi _=>hb.block i hi⟩ (by
  cases e:v.ownBlock with
  | none=>exact yQ rfl
  | some k=>exact yR (fun x=>by cases x))
theorem zKO {g:Nat} {t:JZ} (h:w.cell? ⟨g,0,none⟩=some (.string t)):∀ j u,(zI [t])[j]?=some u->w.cell? ((⟨g,0,none⟩:Addr).add j)=some u:=by
 intro j u hj
 rw [Addr.add_mid,yV]
 match j,hj with
 | 0,hj=>simp [zI] at hj; subst hj; exact h
theorem zHJ (bz cz i:Nat) (zs:List zD) (k:Int) (t:JZ) (ja jb:Nat) (ws:List JZ) (hi:i<zs.length) (hK:zs.length<=20000) (ho:atN zs i=⟨k,t,(ja:Int),(jb:Int)⟩) (hI:ws.length<=90000) (hc:zR0 bz cz zs k t ja jb ws):zLV bz cz zs i ws:=by
 intro w hp hF
 obtain ⟨i0,h4,hw,hy,h6⟩:=zN zCL
 have HI:=zB h4
 have HZ:=zB (yH hw (yH hy h6))
 have hO:(i:Int)<(zs.length:Int):=by omega
 obtain ⟨h0,h1,h2,h3⟩:=hp i hi
 rw [ho] at h0 h1 h2 h3
 simp only [yV] at h0 h1 h2 h3
 have HC:=zB hc
 have hv:=zB hp
 clear h4 hw hy h6 hc hp ho
 go_enter Tryz.func77,Tryz.ntmps77
 go_wp2_with fail
 obtain ⟨W0,W⟩:∃ W0,W0=(w.alloc (.cells #[.int .i64 k,.string t,.int .i64 (ja:Int),.int .i64 (jb:Int)] 144)):=⟨_,rfl⟩
 have f:=zB (show ZB W0 w.heap.size ⟨k,t,(ja:Int),(jb:Int)⟩ by rw [W]; exact ⟨by simp [go_sem],by simp [go_sem],by simp [go_sem],by simp [go_sem],by simp [go_sem],by simp [go_sem]⟩)
 have a:=zB (show Below w.heap.size w W0 by rw [W]; exact zC _ _)
 have O:=zB ((zA hv).below (zA a) hF)
 have z0:w.heap.size+1=W0.heap.size:=by rw [W]; simp
 rw [<- W]
 obtain ⟨n0,n1,n2,n3,_,_⟩:=zA f
 simp only at n0 n1 n2 n3
 clear hv W h0 h1 h2 h3
 rcases zA HC with ⟨hk,Y⟩ | ⟨hk,w1,m,J,Y⟩ | ⟨hk,w1,m,J,Y⟩ | ⟨hk,w1,m,J,Y⟩ | ⟨hk,w1,w2,m,hM,J,ha,Y⟩
 ·have HK:=zB hk
  have E:=zB Y
  clear hk Y HC
  (with_reducible refine (zP (zA HK) 0 rfl _).mono ?_)
  rintro e W0' ⟨rfl,hw'⟩
  subst hw'
  go_wp2_with fail
  go_ret
  have e1:ws.length=1:=by rw [zA E]; rfl
  refine ⟨W0'.heap.size,1,?_,zB ?_,zB ((zA a).alloc (zA a).size _)⟩
  ·rw [e1]; rfl
  ·rw [e1,zA E]
   exact zZ.lit (zA a).size t
 ·have E:=zB Y
  have c:=zB J
  subst hk
  have S:ws.length=1+w1.length:=by rw [Y]; simp; omega
  clear Y J HC
  (with_reducible refine (zP (show ze 3=1 from rfl) 1 rfl _).mono ?_)
  rintro e w' ⟨rfl,hw'⟩
  subst hw'
  go_wp2_with fail
  have u:=(zA c) _ (zA O) (by omega)
  (with_reducible refine u.mono ?_)
  clear u
  rintro e W1 ⟨g1,c1,rfl,HR1,HB1⟩
  have z1:=(zA HB1).size
  have hm:w.heap.size<W1.heap.size:=by omega
  have hj:¬ w.heap.size=W1.heap.size:=by omega
  have hl:=(zA HR1).lt g1 rfl
  have N:=zB ((zA f).below (zA HB1))
  have d:=zB ((zA a).trans ((zA HB1).mono (zA a).size))
  obtain ⟨p0,p1,p2,p3,_,_⟩:=zA N
  simp only at p0 p1 p2 p3
  have C:=zB (zZ.nil (w:=W1) (B:=w.heap.size) (by omega))
  have s:=zB (((zA HR1).below (zC W1 (.cells #[] 9))).below (zC _ (.cells #[.string t] 9)))
  clear n0 n1 n2 n3 f HR1
  go_wp2_with (at_builtin; refine yJ _ rfl (.tmp 27) (.tmp 30) 39 rfl w.heap.size 9 i0 _ 1 16 Tryz.underlying39 (zA HI) (zA HZ).1 (zA HZ).2.1 (zA HZ).2.2 rfl (by decide) _ 0 (zI []) rfl ((zA C).below (zC _ _)) ⟨W1.heap.size+1,0,none⟩ 1 1 (zI [t]) rfl rfl (by have:=ZG (W1.alloc (.cells #[] 9)) t; simpa using this) (zT _) ?b1 ?b2 ?b3 ?next)
  case b1=>unfold maxLen; omega
  case b2=>omega
  case b3=>simp; omega
  case next=>
   intro v4 w4 A V L l
   have n:zZ w4 w.heap.size v4 [t]:=zZ.join (us:=[]) A rfl
   obtain ⟨g4,c4,rfl⟩:=n.has (by simp)
   have hh:=zB n
   have H:World.grownBy _ w4 (some W1.heap.size):=V
   have hb:=zB ((zA s).grown H (fun k hk=>by simp [Value.ownBlock] at hk; intro e; injection e with e; omega))
   have hD:g4=W1.heap.size\/W1.heap.size+2<=g4:=by simp [Value.ownBlock] at l; omega
   have hu:=zB (ZX ((((zA d).alloc (zA d).size (.cells #[] 9))).alloc (by simp; omega) (.cells #[.string t] 9)) H (fun k hk=>by injection hk with hk; omega) (by simp; omega))
   have z4:=H.size
   simp at z4
   clear A V H L l n s C
   go_wp2_with (at_builtin; refine yJ _ rfl (.tmp 31) (.tmp 32) 39 rfl w.heap.size 9 i0 _ 1 16 Tryz.underlying39 (zA HI) (zA HZ).1 (zA HZ).2.1 (zA HZ).2.2 rfl (by decide) _ 1 (zI [t]) rfl (zA hh) ⟨g1,0,none⟩ w1.length c1 (zI w1) rfl (by simp [zI]) ((zA hb).news) (zT _) ?b12 ?b22 ?b32 ?next2)
   case b12=>unfold maxLen; omega
   case b22=>omega
   case b32=>omega
   case next2=>
    intro v5 w5 q K M y
    have G:zZ w5 w.heap.size v5 ws:=zZ.join (us:=[t]) q (zA E)
    obtain ⟨g5,c5,rfl⟩:=G.has (by omega)
    have hd:=zB G
    have H:World.grownBy _ w5 (some g4):=K
    have v:=zB (ZX (zA hu) H (fun k hk=>by injection hk with hk; omega) (by omega))
    clear q K H M y G
    go_wp2_with fail
    go_ret
    exact ⟨g5,c5,rfl,hd,v⟩
 ·have E:=zB Y
  have c:=zB J
  subst hk
  have S:ws.length=1+w1.length+1:=by rw [Y]; simp; omega
  clear Y J HC
  (with_reducible refine (zP (show ze 6=1 from rfl) 1 rfl _).mono ?_)
  rintro e w' ⟨rfl,hw'⟩
  subst hw'
  go_wp2_with fail
  have u:=(zA c) _ (zA O) (by omega)
  (with_reducible refine u.mono ?_)
  clear u
  rintro e W1 ⟨g1,c1,rfl,HR1,HB1⟩
  have z1:=(zA HB1).size
  have hm:w.heap.size<W1.heap.size:=by omega
  have hj:¬ w.heap.size=W1.heap.size:=by omega
  have hl:=(zA HR1).lt g1 rfl
  have N:=zB ((zA f).below (zA HB1))
  have d:=zB ((zA a).trans ((zA HB1).mono (zA a).size))
  obtain ⟨p0,p1,p2,p3,_,_⟩:=zA N
  simp only at p0 p1 p2 p3
  have C:=zB (zZ.nil (w:=W1) (B:=w.heap.size) (by omega))
  have s:=zB (((zA HR1).below (zC W1 (.cells #[] 9))).below (zC _ (.cells #[.string (⟨#[40]⟩:JZ)] 9)))
  clear n0 n1 n2 n3 f HR1
  go_wp2_with (at_builtin; refine yJ _ rfl (.tmp 37) (.tmp 38) 39 rfl w.heap.size 9 i0 _ 1 16 Tryz.underlying39 (zA HI) (zA HZ).1 (zA HZ).2.1 (zA HZ).2.2 rfl (by decide) _ 0 (zI []) rfl ((zA C).below (zC _ _)) ⟨W1.heap.size+1,0,none⟩ 1 1 (zI [(⟨#[40]⟩:JZ)]) rfl rfl (by have:=ZG (W1.alloc (.cells #[] 9)) (⟨#[40]⟩:JZ); simpa using this) (zT _) ?b1 ?b2 ?b3 ?next)
  case b1=>unfold maxLen; omega
  case b2=>omega
  case b3=>simp; omega
  case next=>
   intro v4 w4 A V L l
   have n:zZ w4 w.heap.size v4 [(⟨#[40]⟩:JZ)]:=zZ.join (us:=[]) A rfl
   obtain ⟨g4,c4,rfl⟩:=n.has (by simp)
   have hh:=zB n
   have H:World.grownBy _ w4 (some W1.heap.size):=V
   have hb:=zB ((zA s).grown H (fun k hk=>by simp [Value.ownBlock] at hk; intro e; injection e with e; omega))
   have hD:g4=W1.heap.size\/W1.heap.size+2<=g4:=by simp [Value.ownBlock] at l; omega
   have hu:=zB (ZX ((((zA d).alloc (zA d).size (.cells #[] 9))).alloc (by simp; omega) (.cells #[.string (⟨#[40]⟩:JZ)] 9)) H (fun k hk=>by injection hk with hk; omega) (by simp; omega))
   have z4:=H.size
   simp at z4
   clear A V H L l n s C
   go_wp2_with (at_builtin; refine yJ _ rfl (.tmp 39) (.tmp 40) 39 rfl w.heap.size 9 i0 _ 1 16 Tryz.underlying39 (zA HI) (zA HZ).1 (zA HZ).2.1 (zA HZ).2.2 rfl (by decide) _ 1 (zI [(⟨#[40]⟩:JZ)]) rfl (zA hh) ⟨g1,0,none⟩ w1.length c1 (zI w1) rfl (by simp [zI]) ((zA hb).news) (zT _) ?b12 ?b22 ?b32 ?next2)
   case b12=>unfold maxLen; omega
   case b22=>omega
   case b32=>omega
   case next2=>
    intro v5 w5 q K M y
    obtain ⟨X,U⟩:∃ X,Hid (X=[(⟨#[40]⟩:JZ)]++w1):=⟨_,zB rfl⟩
    have D:X.length=1+w1.length:=by rw [zA U]; simp; omega
    have G:zZ w5 w.heap.size v5 X:=zZ.join (us:=[(⟨#[40]⟩:JZ)]) q (zA U)
    obtain ⟨g5,c5,rfl⟩:=G.has (by omega)
    have hd:=zB G
    have H:World.grownBy _ w5 (some g4):=K
    have v:=zB (ZX (zA hu) H (fun k hk=>by injection hk with hk; omega) (by omega))
    have hN:=G.lt g5 rfl
    clear q K H M y G
    go_wp2_with (at_builtin; refine yJ _ rfl (.tmp 41) (.tmp 42) 39 rfl w.heap.size 9 i0 _ 1 16 Tryz.underlying39 (zA HI) (zA HZ).1 (zA HZ).2.1 (zA HZ).2.2 rfl (by decide) _ X.length (zI X) rfl ((zA hd).below (zC _ _)) ⟨w5.heap.size,0,none⟩ 1 1 (zI [(⟨#[41]⟩:JZ)]) rfl rfl (ZG w5 (⟨#[41]⟩:JZ)) (zT _) ?b13 ?b23 ?b33 ?next3)
    case b13=>unfold maxLen; omega
    case b23=>omega
    case b33=>simp; omega
    case next3=>
     intro v6 w6 x Q hr P
     have ht:zZ w6 w.heap.size v6 ws:=zZ.join (us:=X) (vs:=[⟨#[41]⟩]) (by rw [D]; exact x) (by rw [zA E,zA U]; rfl)
     obtain ⟨g6,c6,rfl⟩:=ht.has (by omega)
     have I:=zB ht
     have H:World.grownBy _ w6 (some g5):=Q
     have F:=zB (ZX ((zA v).alloc (zA v).size (.cells #[.string (⟨#[41]⟩:JZ)] 9)) H (fun k hk=>by injection hk with hk; omega) (by simp; omega))
     clear x Q H hr P ht
     go_wp2_with fail
     go_ret
     exact ⟨g6,c6,rfl,I,F⟩
 ·have E:=zB Y
  have c:=zB J
  subst hk
  have S:ws.length=w1.length+1:=by rw [Y]; simp
  clear Y J HC
  (with_reducible refine (zP (show ze 5=1 from rfl) 1 rfl _).mono ?_)
  rintro e w' ⟨rfl,hw'⟩
  subst hw'
  go_wp2_with fail
  have u:=(zA c) _ (zA O) (by omega)
  (with_reducible refine u.mono ?_)
  clear u
  rintro e W1 ⟨g1,c1,rfl,HR1,HB1⟩
  have z1:=(zA HB1).size
  have hm:w.heap.size<W1.heap.size:=by omega
  have hj:¬ w.heap.size=W1.heap.size:=by omega
  have hl:=(zA HR1).lt g1 rfl
  have N:=zB ((zA f).below (zA HB1))
  have d:=zB ((zA a).trans ((zA HB1).mono (zA a).size))
  obtain ⟨p0,p1,p2,p3,_,_⟩:=zA N
  simp only at p0 p1 p2 p3
  have C:=zB (zZ.nil (w:=W1) (B:=w.heap.size) (by omega))
  have g:=zB ((zA HR1).below (zC W1 (.cells #[] 9)))
  have Z:=zB ((zA d).alloc (zA d).size (.cells #[] 9))
  have qa:(W1.alloc (.cells #[] 9)).drew.cell? ⟨w.heap.size,1,none⟩=some (.string t):=((zC W1 (.cells #[] 9)).drew.cell (p:=⟨w.heap.size,1,none⟩) (by show w.heap.size<W1.heap.size; omega)).trans p1
  have qb:((W1.alloc (.cells #[] 9)).alloc (.cells #[.string t] 9)).drew.cell? ⟨w.heap.size,1,none⟩=some (.string t):=(((zC W1 (.cells #[] 9)).alloc (by simp) (.cells #[.string t] 9)).drew.cell (p:=⟨w.heap.size,1,none⟩) (by show w.heap.size<W1.heap.size; omega)).trans p1
  have xb:((W1.alloc (.cells #[] 9)).alloc (.cells #[.string t] 9)).drew.cell? ⟨W1.heap.size+1,0,none⟩=some (.string t):=by simp [go_sem]
  clear n0 n1 n2 n3 f HR1
  obtain ⟨X,U⟩:∃ X,Hid (X=w1++[t]):=⟨_,zB rfl⟩
  have D:X.length=w1.length+1:=by rw [zA U]; simp
  go_wp2_with fail
  go_region_held_law (fun w'=>w'.cell? ⟨w.heap.size,1,none⟩=some (.string t)) (first | (go_keep; done) | exact q5 | exact ((zC w5 _).cell (p:=⟨w.heap.size,1,none⟩) (by show w.heap.size<w5.heap.size; omega)).trans q5 | exact q6)
   (first | (refine step_append_lies _ (by rfl) (.tmp 47) (.tmp 48) 39 (by rfl) w.heap.size 9 i0 _ 1 16 Tryz.underlying39 (zA HI) (zA HZ).1 (zA HZ).2.1 (zA HZ).2.2 rfl (by decide) _ 0 (zI []) (by rfl) ?hownA5 ⟨g1,0,none⟩ w1.length c1 (zI w1) (by rfl) (by simp [zI]) ?hnewsA5 (zT _) m (by unfold maxLen; omega) (by omega) ?hbaseA5 _ rfl ?_; exact (zA C).below (yG _ _).drew; exact ((zA g).below (yG _ _).drew).news; (simp; omega); intro g5 c5 w5 q K y T; have H:World.grownBy _ w5 (some W1.heap.size):=K; have hn:W1.heap.size<=g5:=(by rcases (show some W1.heap.size=some g5\/_ from y) with h | h; (injection h with h; omega); (rw [h]; simp <;> omega)); have z5:W1.heap.size+1<=w5.heap.size:=(by have:=H.size; simp at this; omega); have q5:=(zE H (b:=w.heap.size) (by simp; omega) (by simp; omega) 1).trans qa; have z:=zB q; have r:=zB (show w5.ownsRow w.heap.size 9 1 (.slice (some ⟨g5,0,none⟩) w1.length c5) w1.length (zI w1) from (by simpa [zI] using q)); have v:=zB (ZX (zA Z).drew H (fun k hk=>by injection hk with hk; omega) (by first | omega | (simp; omega))); clear q K H y) | (refine step_append_lies _ (by rfl) (.tmp 47) (.tmp 48) 39 (by rfl) w.heap.size 9 i0 _ 1 16 Tryz.underlying39 (zA HI) (zA HZ).1 (zA HZ).2.1 (zA HZ).2.2 rfl (by decide) _ 0 (zI []) (by rfl) ?hownB5 ⟨g1,0,none⟩ w1.length c1 (zI w1) (by rfl) (by simp [zI]) ?hnewsB5 (zT _) m (by unfold maxLen; omega) (by omega) ?hbaseB5 _ rfl ?_; exact (((zA C).below (zC _ (.cells #[.string t] 9))).below (yG _ _).drew); exact (((zA g).below (zC _ (.cells #[.string t] 9))).below (yG _ _).drew).news; (simp; omega); intro g5 c5 w5 q K y T; have H:World.grownBy _ w5 (some W1.heap.size):=K; have hn:W1.heap.size<=g5:=(by rcases (show some W1.heap.size=some g5\/_ from y) with h | h; (injection h with h; omega); (rw [h]; simp <;> omega)); have z5:W1.heap.size+1<=w5.heap.size:=(by have:=H.size; simp at this; omega); have q5:=(zE H (b:=w.heap.size) (by simp; omega) (by simp; omega) 1).trans qb; have z:=zB q; have r:=zB (show w5.ownsRow w.heap.size 9 1 (.slice (some ⟨g5,0,none⟩) w1.length c5) w1.length (zI w1) from (by simpa [zI] using q)); have v:=zB (ZX ((zA Z).alloc (by simp; omega) (.cells #[.string t] 9)).drew H (fun k hk=>by injection hk with hk; omega) (by first | omega | (simp; omega))); have x5:=(zE H (b:=W1.heap.size+1) (by simp) (by simp) 0).trans xb; clear q K H y) | (refine step_append_lies _ (by rfl) (.tmp 49) (.tmp 52) 39 (by rfl) w.heap.size 9 i0 _ 1 16 Tryz.underlying39 (zA HI) (zA HZ).1 (zA HZ).2.1 (zA HZ).2.2 rfl (by decide) _ w1.length (zI w1) (by rfl) ?hownC5 ⟨w5.heap.size,0,none⟩ 1 1 (zI [t]) (by rfl) (by simp [zI]) ?hnewsC5 (zT _) (by decide) (by unfold maxLen; omega) (by omega) ?hbaseC5 _ rfl ?_; exact (zIZ (zA r) (zC _ (.cells #[.string t] 9))); exact (ZG w5 t); (simp; omega); intro g6 c6 w6 x Q P j; have H:World.grownBy _ w6 (some g5):=Q; have I:=zB (show zZ w6 w.heap.size (.slice (some ⟨g6,0,none⟩) X.length c6) X from (by have h:=zZ.join (us:=w1) (vs:=[t]) x (zA U); rw [D]; exact h)); have F:=zB (ZX ((zA v).alloc (zA v).size (.cells #[.string t] 9)) H (fun k hk=>by injection hk with hk; omega) (by first | omega | (simp; omega))); have q6:=(zE H (b:=w.heap.size) (by first | omega | (simp; omega)) (by intro e; injection e with e; omega) 1).trans (((zC w5 (.cells #[.string t] 9)).cell (p:=⟨w.heap.size,1,none⟩) (by show w.heap.size<w5.heap.size; omega)).trans q5); have hq:=j; clear x Q H P j) | (refine step_append_lies _ (by rfl) (.tmp 49) (.tmp 52) 39 (by rfl) w.heap.size 9 i0 _ 1 16 Tryz.underlying39 (zA HI) (zA HZ).1 (zA HZ).2.1 (zA HZ).2.2 rfl (by decide) _ (0+w1.length) (zI []++zI w1) (by rfl) ?hownD5 ⟨W1.heap.size+1,0,none⟩ 1 1 (zI [t]) (by rfl) (by simp [zI]) ?hnewsD5 (zT _) (by decide) (by unfold maxLen; omega) (by omega) ?hbaseD5 _ rfl ?_; exact (zA z); exact (zKO x5); (first | omega | (simp; omega)); intro g6 c6 w6 x Q P j; have H:World.grownBy _ w6 (some g5):=Q; have I:=zB (show zZ w6 w.heap.size (.slice (some ⟨g6,0,none⟩) X.length c6) X from (by rw [D]; exact zZ.join (us:=w1) (vs:=[t]) (by simpa [zI] using x) (zA U))); have F:=zB (ZX (zA v) H (fun k hk=>by injection hk with hk; omega) (by first | omega | (simp; omega))); have q6:=(zE H (b:=w.heap.size) (by first | omega | (simp; omega)) (by intro e; injection e with e; omega) 1).trans q5; have hq:=j; clear x Q H P j))
  all_goals simp only [yc,ya,yb,yd,yf,ye]
  all_goals
   obtain rfl:ws=X:=by rw [zA E,zA U]
   go_wp2_with fail
   go_ret
   refine ⟨g6,c6,?_,I,F⟩
   first
    | (
     show Ending.returned (.slice (some ⟨g6,0,none⟩) (w1.length+1) c6)=_
     rw [D])
    | (
     show Ending.returned (.slice (some ⟨g6,0,none⟩) (0+w1.length+1) c6)=_
     rw [D,yV])
 ·have E:=zB Y
  have c:=zB J
  have hf:=zB ha
  subst hk
  have S:ws.length=w1.length+1+w2.length:=by rw [Y]; simp; omega
  clear Y J ha HC
  (with_reducible refine (zP (show ze 4=2 from rfl) 2 rfl _).mono ?_)
  rintro e w' ⟨rfl,hw'⟩
  subst hw'
  go_wp2_with fail
  have u:=(zA c) _ (zA O) (by omega)
  (with_reducible refine u.mono ?_)
  clear u
  rintro e W1 ⟨g1,c1,rfl,HR1,HB1⟩
  have z1:=(zA HB1).size
  have hm:w.heap.size<W1.heap.size:=by omega
  have hj:¬ w.heap.size=W1.heap.size:=by omega
  have hl:=(zA HR1).lt g1 rfl
  have N:=zB ((zA f).below (zA HB1))
  have d:=zB ((zA a).trans ((zA HB1).mono (zA a).size))
  obtain ⟨p0,p1,p2,p3,_,_⟩:=zA N
  simp only at p0 p1 p2 p3
  have C:=zB (zZ.nil (w:=W1) (B:=w.heap.size) (by omega))
  have g:=zB ((zA HR1).below (zC W1 (.cells #[] 9)))
  have Z:=zB ((zA d).alloc (zA d).size (.cells #[] 9))
  have qa:(W1.alloc (.cells #[] 9)).drew.cell? ⟨w.heap.size,1,none⟩=some (.string t):=((zC W1 (.cells #[] 9)).drew.cell (p:=⟨w.heap.size,1,none⟩) (by show w.heap.size<W1.heap.size; omega)).trans p1
  have qb:((W1.alloc (.cells #[] 9)).alloc (.cells #[.string t] 9)).drew.cell? ⟨w.heap.size,1,none⟩=some (.string t):=(((zC W1 (.cells #[] 9)).alloc (by simp) (.cells #[.string t] 9)).drew.cell (p:=⟨w.heap.size,1,none⟩) (by show w.heap.size<W1.heap.size; omega)).trans p1
  have ra:(W1.alloc (.cells #[] 9)).drew.cell? ⟨w.heap.size,3,none⟩=some (.int .i64 (jb:Int)):=((zC W1 (.cells #[] 9)).drew.cell (p:=⟨w.heap.size,3,none⟩) (by show w.heap.size<W1.heap.size; omega)).trans p3
  have rb:((W1.alloc (.cells #[] 9)).alloc (.cells #[.string t] 9)).drew.cell? ⟨w.heap.size,3,none⟩=some (.int .i64 (jb:Int)):=(((zC W1 (.cells #[] 9)).alloc (by simp) (.cells #[.string t] 9)).drew.cell (p:=⟨w.heap.size,3,none⟩) (by show w.heap.size<W1.heap.size; omega)).trans p3
  have h7:=zB ((zA O).below (zA HB1) (by omega))
  have hA:=zB ((zA h7).below (B:=W1.heap.size) (zC W1 (.cells #[] 9)).drew (by omega))
  have h9:=zB ((zA h7).below (B:=W1.heap.size) ((zC W1 (.cells #[] 9)).alloc (by simp) (.cells #[.string t] 9)).drew (by omega))
  have xb:((W1.alloc (.cells #[] 9)).alloc (.cells #[.string t] 9)).drew.cell? ⟨W1.heap.size+1,0,none⟩=some (.string t):=by simp [go_sem]
  clear n0 n1 n2 n3 f HR1
  obtain ⟨X,U⟩:∃ X,Hid (X=w1++[t]):=⟨_,zB rfl⟩
  have D:X.length=w1.length+1:=by rw [zA U]; simp
  go_wp2_with fail
  go_region_held_law (fun w'=>w'.cell? ⟨w.heap.size,1,none⟩=some (.string t)) (first | (go_keep; done) | exact q5 | exact ((zC w5 _).cell (p:=⟨w.heap.size,1,none⟩) (by show w.heap.size<w5.heap.size; omega)).trans q5 | exact q6)
   (first | (refine step_append_lies _ (by rfl) (.tmp 54) (.tmp 55) 39 (by rfl) w.heap.size 9 i0 _ 1 16 Tryz.underlying39 (zA HI) (zA HZ).1 (zA HZ).2.1 (zA HZ).2.2 rfl (by decide) _ 0 (zI []) (by rfl) ?hownA4 ⟨g1,0,none⟩ w1.length c1 (zI w1) (by rfl) (by simp [zI]) ?hnewsA4 (zT _) m (by unfold maxLen; omega) (by omega) ?hbaseA4 _ rfl ?_; exact (zA C).below (yG _ _).drew; exact ((zA g).below (yG _ _).drew).news; (simp; omega); intro g5 c5 w5 q K y T; have H:World.grownBy _ w5 (some W1.heap.size):=K; have hn:W1.heap.size<=g5:=(by rcases (show some W1.heap.size=some g5\/_ from y) with h | h; (injection h with h; omega); (rw [h]; simp <;> omega)); have z5:W1.heap.size+1<=w5.heap.size:=(by have:=H.size; simp at this; omega); have r5:=(zE H (b:=w.heap.size) (by simp; omega) (by simp; omega) 3).trans ra; have hg:=zB (zCN (zA hA) H (by simp; omega) (by simp; omega)); have q5:=(zE H (b:=w.heap.size) (by simp; omega) (by simp; omega) 1).trans qa; have z:=zB q; have r:=zB (show w5.ownsRow w.heap.size 9 1 (.slice (some ⟨g5,0,none⟩) w1.length c5) w1.length (zI w1) from (by simpa [zI] using q)); have v:=zB (ZX (zA Z).drew H (fun k hk=>by injection hk with hk; omega) (by first | omega | (simp; omega))); clear q K H y) | (refine step_append_lies _ (by rfl) (.tmp 54) (.tmp 55) 39 (by rfl) w.heap.size 9 i0 _ 1 16 Tryz.underlying39 (zA HI) (zA HZ).1 (zA HZ).2.1 (zA HZ).2.2 rfl (by decide) _ 0 (zI []) (by rfl) ?hownB4 ⟨g1,0,none⟩ w1.length c1 (zI w1) (by rfl) (by simp [zI]) ?hnewsB4 (zT _) m (by unfold maxLen; omega) (by omega) ?hbaseB4 _ rfl ?_; exact (((zA C).below (zC _ (.cells #[.string t] 9))).below (yG _ _).drew); exact (((zA g).below (zC _ (.cells #[.string t] 9))).below (yG _ _).drew).news; (simp; omega); intro g5 c5 w5 q K y T; have H:World.grownBy _ w5 (some W1.heap.size):=K; have hn:W1.heap.size<=g5:=(by rcases (show some W1.heap.size=some g5\/_ from y) with h | h; (injection h with h; omega); (rw [h]; simp <;> omega)); have z5:W1.heap.size+1<=w5.heap.size:=(by have:=H.size; simp at this; omega); have r5:=(zE H (b:=w.heap.size) (by simp; omega) (by simp; omega) 3).trans rb; have hg:=zB (zCN (zA h9) H (by simp; omega) (by simp; omega)); have q5:=(zE H (b:=w.heap.size) (by simp; omega) (by simp; omega) 1).trans qb; have z:=zB q; have r:=zB (show w5.ownsRow w.heap.size 9 1 (.slice (some ⟨g5,0,none⟩) w1.length c5) w1.length (zI w1) from (by simpa [zI] using q)); have v:=zB (ZX ((zA Z).alloc (by simp; omega) (.cells #[.string t] 9)).drew H (fun k hk=>by injection hk with hk; omega) (by first | omega | (simp; omega))); have x5:=(zE H (b:=W1.heap.size+1) (by simp) (by simp) 0).trans xb; clear q K H y) | (refine step_append_lies _ (by rfl) (.tmp 56) (.tmp 59) 39 (by rfl) w.heap.size 9 i0 _ 1 16 Tryz.underlying39 (zA HI) (zA HZ).1 (zA HZ).2.1 (zA HZ).2.2 rfl (by decide) _ w1.length (zI w1) (by rfl) ?hownC4 ⟨w5.heap.size,0,none⟩ 1 1 (zI [t]) (by rfl) (by simp [zI]) ?hnewsC4 (zT _) (by decide) (by unfold maxLen; omega) (by omega) ?hbaseC4 _ rfl ?_; exact (zIZ (zA r) (zC _ (.cells #[.string t] 9))); exact (ZG w5 t); (simp; omega); intro g6 c6 w6 x Q P j; have H:World.grownBy _ w6 (some g5):=Q; have I:=zB (show zZ w6 w.heap.size (.slice (some ⟨g6,0,none⟩) X.length c6) X from (by have h:=zZ.join (us:=w1) (vs:=[t]) x (zA U); rw [D]; exact h)); have F:=zB (ZX ((zA v).alloc (zA v).size (.cells #[.string t] 9)) H (fun k hk=>by injection hk with hk; omega) (by first | omega | (simp; omega))); have q6:=(zE H (b:=w.heap.size) (by first | omega | (simp; omega)) (by intro e; injection e with e; omega) 1).trans (((zC w5 (.cells #[.string t] 9)).cell (p:=⟨w.heap.size,1,none⟩) (by show w.heap.size<w5.heap.size; omega)).trans q5); have hq:=j; have r6:=(zE H (b:=w.heap.size) (by first | omega | (simp; omega)) (by intro e; injection e with e; omega) 3).trans (((zC w5 (.cells #[.string t] 9)).cell (p:=⟨w.heap.size,3,none⟩) (by show w.heap.size<w5.heap.size; omega)).trans r5); have h5:=zB (zCN ((zA hg).below (zC w5 (.cells #[.string t] 9)) (by omega)) H (by first | omega | (simp; omega)) (by intro e; injection e with e; omega)); have hG:w.heap.size<=g6:=(by rcases (show some g5=some g6\/_ from P) with h | h; (injection h with h; omega); (rw [h]; first | (simp <;> omega) | omega)); have z6:w5.heap.size<=w6.heap.size:=(by have:=H.size; first | (simp at this; omega) | omega); clear x Q H P j) | (refine step_append_lies _ (by rfl) (.tmp 56) (.tmp 59) 39 (by rfl) w.heap.size 9 i0 _ 1 16 Tryz.underlying39 (zA HI) (zA HZ).1 (zA HZ).2.1 (zA HZ).2.2 rfl (by decide) _ (0+w1.length) (zI []++zI w1) (by rfl) ?hownD4 ⟨W1.heap.size+1,0,none⟩ 1 1 (zI [t]) (by rfl) (by simp [zI]) ?hnewsD4 (zT _) (by decide) (by unfold maxLen; omega) (by omega) ?hbaseD4 _ rfl ?_; exact (zA z); exact (zKO x5); (first | omega | (simp; omega)); intro g6 c6 w6 x Q P j; have H:World.grownBy _ w6 (some g5):=Q; have I:=zB (show zZ w6 w.heap.size (.slice (some ⟨g6,0,none⟩) X.length c6) X from (by rw [D]; exact zZ.join (us:=w1) (vs:=[t]) (by simpa [zI] using x) (zA U))); have F:=zB (ZX (zA v) H (fun k hk=>by injection hk with hk; omega) (by first | omega | (simp; omega))); have q6:=(zE H (b:=w.heap.size) (by first | omega | (simp; omega)) (by intro e; injection e with e; omega) 1).trans q5; have hq:=j; have r6:=(zE H (b:=w.heap.size) (by first | omega | (simp; omega)) (by intro e; injection e with e; omega) 3).trans r5; have h5:=zB (zCN (zA hg) H (by first | omega | (simp; omega)) (by intro e; injection e with e; omega)); have hG:w.heap.size<=g6:=(by rcases (show some g5=some g6\/_ from P) with h | h; (injection h with h; omega); (rw [h]; first | (simp <;> omega) | omega)); have z6:w5.heap.size<=w6.heap.size:=(by have:=H.size; first | (simp at this; omega) | omega); clear x Q H P j))
  all_goals simp only [yc,ya,yb,yd,yf,ye]
  all_goals
   have hJ:w.heap.size<w6.heap.size:=by omega
   go_wp2_with fail
   have u:=(zA hf) _ (zA h5) (by omega)
   (with_reducible refine u.mono ?_)
   clear u
   rintro e w7 ⟨g7,c7,rfl,HR7,HB7⟩
   have z7:=(zA HB7).size
   have hP:=(zA HR7).lt g7 rfl
   have hH:=zB ((zA I).below (zA HB7))
   have hE:=zB ((zA F).trans ((zA HB7).mono (zA F).size))
   have hz:=zB D
   have h8:=zB S
   have hQ:w1.length+1+w2.length<=90000:=by omega
   clear D S q6 r6 I F HB7
   go_wp2_with (at_builtin; refine yJ _ rfl (.tmp 61) (.tmp 65) 39 rfl w.heap.size 9 i0 _ 1 16 Tryz.underlying39 (zA HI) (zA HZ).1 (zA HZ).2.1 (zA HZ).2.2 rfl (by decide) _ (w1.length+1) (zI X) rfl (by have:=zA hH; unfold zZ at this; rw [zA hz] at this; exact this) ⟨g7,0,none⟩ w2.length c7 (zI w2) rfl (by simp [zI]) (zA HR7).news (zT _) ?b14 ?b24 ?b34 ?next4)
   case b14=>unfold maxLen; omega
   case b24=>omega
   case b34=>omega
   case next4=>
    intro v9 w9 R o hs hx
    have he:zZ w9 w.heap.size v9 ws:=zZ.join (us:=X) (vs:=w2) (by rw [zA hz]; exact R) (by rw [zA E,zA U])
    obtain ⟨g9,c9,rfl⟩:=he.has (by have:=zA h8; omega)
    have hB:=zB he
    have H:World.grownBy _ w9 (some g6):=o
    have hC:=zB (ZX (zA hE) H (fun k hk=>by injection hk with hk; omega) (by omega))
    clear R o H hs hx he
    go_wp2_with fail
    go_ret
    exact ⟨g9,c9,rfl,hB,hC⟩
end Go.Proofs.YtgbkgkdpdfdokaaGreatDoor
